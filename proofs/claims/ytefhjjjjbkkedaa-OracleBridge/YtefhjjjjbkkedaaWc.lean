/- Several texts in one. -/
import Derived.Test.YtefhjjjjbkkedaaL3
import Derived.Test.YtefhjjjjbkkedaaS2
import Derived.Test.YtefhjjjjbkkedaaP3
import Derived.Deep.MidRow
import Derived.Laws.Cover3
import Derived.Stop.BytesEq
import Derived.WideKeyArr2
import Derived.Deep.RegionHeld3
import Derived.Deep.RegionLaw
import Derived.Deep.AppendLies
import Derived.Test.YtefhjjjjbkkedaaV2
import Derived.Test.YtefhjjjjbkkedaaM1
import Derived.Laws.AppendOwnNone
import Derived.Test.YtefhjjjjbkkedaaC1
import Derived.Deep.RegionWith
import Derived.Test.YtefhjjjjbkkedaaY2
import Derived.Lib.SlBytesRow
import Derived.Laws.CopyOwn
import Derived.Test.YtefhjjjjbkkedaaD1
import Derived.Lib.LazyBuf
import Derived.Laws.BitsAllLaws
set_option linter.unusedVariables false
set_option linter.unusedSimpArgs false
/- Contract of sha's digest. -/
namespace Go.Proofs.Ytefhjjjjbkkedaa
open Go.RowKit

/-- The bytes of words, the highest first. -/
def wb (h : List UInt32) (i : Nat) : UInt8 := UInt8.ofNat ((h.getD (i / 4) 0).toNat / 256 ^ (3 - i % 4) % 256)
def dig8 (h : List UInt32) : List UInt8 := (List.range 32).map (wb h)
theorem dig8_len (h : List UInt32) : (dig8 h).length = 32 := by simp [dig8]
theorem dig8_get (h : List UInt32) (i : Nat) (hi : i < 32) : (dig8 h).getD i 0 = wb h i := by
  simp [dig8, List.getD, List.getElem?_map, List.getElem?_range hi]
/-- A row of n bytes of which the first k are laid, the rest noughts. -/
def bpart (n : Nat) (T : List UInt8) (k : Nat) : List UInt8 := T.take k ++ List.replicate (n - k) 0
theorem bpart_all (n : Nat) (T : List UInt8) (hT : T.length = n) : bpart n T n = T := by unfold bpart; simp [← hT]
theorem bpart_len (n : Nat) (T : List UInt8) (k : Nat) (hT : T.length = n) (h : k ≤ n) : (bpart n T k).length = n := by unfold bpart; simp; omega
theorem bpart_set (n : Nat) (T : List UInt8) (k : Nat) (hT : T.length = n) (h : k < n) : ((bpart n T k).map B8).toArray.setIfInBounds k (B8 (T.getD k 0)) = ((bpart n T (k + 1)).map B8).toArray := by
  have hk : k < T.length := by omega
  have e : (bpart n T k).set k (T.getD k 0) = bpart n T (k + 1) := by
    unfold bpart
    rw [List.set_append_right _ _ (by simp; omega), List.take_succ_eq_append_getElem hk]
    simp only [List.length_take, Nat.min_eq_left (show k ≤ T.length by omega), Nat.sub_self]
    rw [show n - k = (n - (k + 1)) + 1 by omega, List.replicate_succ, List.set_cons_zero]
    rw [show T.getD k 0 = T[k] from by simp [List.getD, List.getElem?_eq_getElem hk]]
    simp only [List.append_assoc, List.singleton_append]
  rw [List.setIfInBounds_toArray, ← List.map_set, e]
theorem bpart_cell (n : Nat) (T : List UInt8) (k : Nat) (hT : T.length = n) (h : k < n) : ∃ u, ((bpart n T k).map B8).toArray[k]? = some u := by
  have hl : k < ((bpart n T k).map B8).toArray.size := by simp [bpart_len n T k hT (by omega)]; exact h
  exact ⟨_, Array.getElem?_eq_getElem hl⟩
theorem B8_onea (l : List UInt8) : (l.map B8).toArray.all (·.oneCell') = true := by
  rw [Array.all_eq_true_iff_forall_mem]
  intro v hv
  simp only [List.mem_toArray, List.mem_map] at hv
  obtain ⟨x, _, rfl⟩ := hv
  rfl
theorem wb_shr (h : List UInt32) (i c : Nat) (hc : c = 3 - i % 4) : IntKind.u8.wrap (U (h.getD (i / 4) 0) / 2 ^ (8 * c)) = ((wb h i).toNat : Int) := by
  unfold wb U
  rw [← hc, IntKind.wrap_u8]
  have e : ((2 : Int) ^ (8 * c)) = ((256 ^ c : Nat) : Int) := by rw [← W1.pow256]; simp
  rw [e]
  have : (UInt8.ofNat ((h.getD (i / 4) 0).toNat / 256 ^ c % 256)).toNat = (h.getD (i / 4) 0).toNat / 256 ^ c % 256 := by
    show _ % 256 = _; omega
  rw [this]
  simp

set_option maxHeartbeats 2000000 in
theorem digest_any (h : List UInt32) (w : World) (hl : h.length = 8) :
    Calls Try.prog 48 #[.agg (h.map W32).toArray] w fun e w' => e = .returned (.agg ((dig8 h).map B8).toArray) ∧ Below w.heap.size w w' := by
  obtain ⟨HA, hHA⟩ : ∃ HA, HA = (h.map W32).toArray := ⟨_, rfl⟩
  have hHc : ∀ i, i < 8 → HA[i]? = some (.int .u32 (U (h.getD i 0))) := fun i hi => by
    rw [hHA]
    have hl : i < h.length := by omega
    simp [W32, List.getD, List.getElem?_eq_getElem hl]
  rw [← hHA]
  have hDl := dig8_len h
  have hDg := dig8_get h
  generalize dig8 h = D at *
  have HDL : Hid _ := hDl
  have HDG : Hid _ := hDg
  have HHC : Hid _ := hHc
  clear hHA hDl hDg hHc
  go_enter Try.func48, Try.ntmps48
  go_wp2
  go_loopw [5] (fun i wr => ∃ k : Nat, k ≤ 32 ∧ i = .int .i64 k ∧ wr.heap[w.heap.size]? = some (.cells HA 97 (0, 0)) ∧ wr.heap[w.heap.size + 1]? = some (.cells ((bpart 32 D 0).map B8).toArray 23 (0, 0)) ∧ wr.heap[w.heap.size + 1 + 1]? = some (.cells ((bpart 32 D k).map B8).toArray 23 (0, 0)) ∧ w.heap.size + 3 ≤ wr.heap.size ∧ Below w.heap.size w wr) (fun i _ => 32 - (intOf i).toNat)
  case atStart =>
    refine ⟨0, by omega, rfl, ?_, ?_, ?_, by simp, (((Below.refl _ _).alloc (Nat.le_refl _) _).alloc (by simp) _).alloc (by simp; omega) _⟩
    · rw [Below.heap_alloc _ _ _ (by simp; omega), Below.heap_alloc _ _ _ (by simp)]; exact heap_alloc_new _ _
    · rw [Below.heap_alloc _ _ _ (by simp)]; exact heap_alloc2_new _ _ _
    · exact (by simp : (((w.alloc _).alloc _).heap.size = w.heap.size + 1 + 1)) ▸ heap_alloc_new _ _
  case round =>
    obtain ⟨k, hk, rfl, h0, h1, h2, hs, hbel⟩ := hrel
    have H0 : Hid _ := h0
    have H1 : Hid _ := h1
    have H2 : Hid _ := h2
    by_cases hlt : k < 32
    · have hset := bpart_set 32 D k HDL.out hlt
      obtain ⟨u, hu⟩ := bpart_cell 32 D k HDL.out hlt
      have hcu := cell_of_row _ _ k _ _ _ h2
      rw [hu] at hcu
      have hfu := frozen_of_row _ _ k _ _ h2
      have hcx := (cell_of_row _ _ (k / 4) _ _ _ h0).trans (HHC.out (k / 4) (by omega))
      have hdg := HDG.out k hlt
      rw [hdg] at hset
      obtain ⟨c, hc⟩ : ∃ c, c = 3 - k % 4 := ⟨_, rfl⟩
      have hc' : (3 : Int) - (k : Int) % 4 = (c : Int) := by omega
      have hc3 : c ≤ 3 := by omega
      have HWB : Hid _ := wb_shr h k c hc
      have HSET : Hid _ := hset
      generalize h.getD (k / 4) 0 = x at *
      clear hset hu h0 h1 h2 hdg hc
      go_wp2
      go_roundw
      case rel =>
        have hx : B8 (wb h k) = .int .u8 (U x / 2 ^ (8 * c) % 256) := by unfold B8; rw [← HWB.out, IntKind.wrap_u8]
        refine ⟨k + 1, by omega, by go_num, ?_, ?_, ?_, by simp; omega, hbel.setCell (p := ⟨w.heap.size + 1 + 1, k, none⟩) (by simp; omega) _⟩
        · rw [heap_setCell_other _ _ _ _ (by simp; omega)]; exact H0.out
        · rw [heap_setCell_other _ _ _ _ (by simp)]; exact H1.out
        · rw [← HSET.out, hx]; exact heap_setCell_same _ (w.heap.size + 1 + 1) k _ 23 _ H2.out
      case measure => simp [intOf]; omega
    · have hk' : k = 32 := by omega
      subst hk'
      have hT' := h2
      rw [bpart_all 32 D HDL.out] at hT'
      have hsc : (D.map B8).toArray.size = 32 := by simp [HDL.out]
      have hpz : ((bpart 32 D 0).map B8).toArray.size = 32 := by simp [bpart_len 32 D 0 HDL.out (by omega)]
      have hi25 : (Try.prog.info? 23).map (·.size) = some (D.map B8).toArray.size := by rw [hsc]; kernel_rfl
      have HT' : Hid _ := hT'
      have HI : Hid _ := hi25
      have HZ : Hid _ := hpz.trans hsc.symm
      have HW1 : Hid _ := B8_onea D
      clear h0 h1 h2 hT' hi25 hsc hpz
      go_wp2_with (first
        | (refine wpList_load_row rfl 23 _ rfl (w.heap.size + 1 + 1) rfl 23 _ (0, 0) _ HT'.out Try.underlying23 rfl HI.out ?_)
        | (refine wpList_store_row rfl 23 _ _ rfl (w.heap.size + 1) _ rfl rfl 23 _ H1.out HI.out HZ.out HW1.out ?_))
      refine bodyPost_ret (v := .agg (D.map B8).toArray) ?_ rfl ⟨rfl, below_setRow hbel (by omega) _⟩
      exact results_cell_row Try.results48 _ _ (w.heap.size + 1) 23 _ (0, 0) _ rfl (setRow_heap _ _ _ _ _ _ H1.out) Try.underlying23 rfl HI.out

end Go.Proofs.Ytefhjjjjbkkedaa

/- Contract of sha's pressAll: blocks pressed one behind the other. -/
namespace Go.Proofs.Ytefhjjjjbkkedaa
open Go.RowKit

theorem press_len (hs : List UInt32) (bs : List UInt8) (h8 : hs.length = 8) : (press hs bs K64).length = 8 := by
  unfold press
  have : ∀ k, (rnds K64 (sched bs 48) hs k).length = 8 := fun k => by
    cases k with
    | zero => exact h8
    | succ k => rfl
  simp [List.length_zipWith, this 64, h8]
/-- The k-th block. -/
def blk (l : List UInt8) (k : Nat) : List UInt8 := (l.drop (64 * k)).take 64
theorem blk_len (l : List UInt8) (k : Nat) (h : 64 * k + 64 ≤ l.length) : (blk l k).length = 64 := by unfold blk; simp; omega
theorem blk_get (l : List UInt8) (k j : Nat) (h : 64 * k + 64 ≤ l.length) (hj : j < 64) : (blk l k)[j]? = some (l.getD (64 * k + j) 0) := by
  unfold blk
  rw [List.getElem?_take_of_lt hj, List.getElem?_drop]
  simp [List.getD, List.getElem?_eq_getElem (show 64 * k + j < l.length by omega)]
/-- The first k blocks pressed in. -/
def pAll (hs : List UInt32) (l : List UInt8) : Nat → List UInt32
  | 0 => hs
  | k + 1 => press (pAll hs l k) (blk l k) K64
theorem pAll_len (hs : List UInt32) (l : List UInt8) (k : Nat) (h8 : hs.length = 8) : (pAll hs l k).length = 8 := by
  induction k with
  | zero => exact h8
  | succ k ih => exact press_len _ _ ih
theorem shaPress_l (hs : List UInt32) (bs : List UInt8) (ks : List UInt32) (w : World) (h8 : hs.length = 8) (hb : bs.length = 64) (hkl : ks.length = 64) :
    Calls Try.prog 61 #[.agg (hs.map W32).toArray, .agg (bs.map B8).toArray, .agg (ks.map W32).toArray] w fun e w' => e = .returned (.agg ((press hs bs ks).map W32).toArray) ∧ Below w.heap.size w w' := by
  match hs, h8 with
  | [h0, h1, h2, h3, h4, h5, h6, h7], _ => exact shaPress_any h0 h1 h2 h3 h4 h5 h6 h7 bs ks w hb hkl
theorem rangeAt_below {w w' : World} {b o : Nat} {cs : List Value} (h : w.rangeAt b o cs) (hb : Below w.heap.size w w') : w'.rangeAt b o cs := fun j v hv => (hb.cell (block_lt (h j v hv))).trans (h j v hv)
theorem rangeAt_row {w : World} {b : Nat} {cs : List Value} {t : TypeId} {fr : Nat × Nat} (h : w.heap[b]? = some (.cells cs.toArray t fr)) : w.rangeAt b 0 cs := fun j v hv => by
  rw [Nat.zero_add, cell_of_row _ _ j _ _ _ h]; simpa using hv
theorem run_storeAt_row (w : World) (g : Nat) (t ty : TypeId) (old cells : Array Value) (hg : w.heap[g]? = some (.cells old t (0, 0))) (hi : (Try.prog.info? ty).map (·.size) = some cells.size) (ho : old.size = cells.size) (h1 : cells.all (·.oneCell') = true) :
    (Instr.storeAt ty (.pointer (some ⟨g, 0, none⟩)) (.agg cells)).run Try.prog w = .ok () (w.setRow g cells) := by
  simp only [Instr.storeAt, Instr.sureAddr, Sem.run_bind, Sem.run_pure, Result.andThen_ok, run_storeVar_row w g t ty old cells hg hi ho h1]
theorem sliceFrom (w : World) (g n cap k : Nat) (h : 64 * k < n) (hc : n ≤ cap) (hm : cap ≤ maxLen) : (Instr.slice 31 (.slice (some ⟨g, 0, none⟩) n cap) (some (.int .i64 ((k : Int) * 64))) none none).run Try.prog w = .ok (.slice (some ⟨g, 64 * k, none⟩) (n - 64 * k) (cap - 64 * k)) w := by
  have h0 : (0 : Int) ≤ (k : Int) * 64 := by omega
  have hu : Try.prog.underlying 31 = some (.slice (Try.prog.elem 31)) := by kernel_rfl
  have hz : (sizeOf (Try.prog.elem 31)).run Try.prog w = .ok 1 w := by
    obtain ⟨i0, hi, hz0, hz1, hz2⟩ := info_parts Try.infoU8
    have he : Try.prog.elem 31 = 5 := by kernel_rfl
    rw [he]
    simp [sizeOf, typeInfo, hi, hz1]
  rw [run_slice_l w 31 _ _ _ hu .i64 _ h0 (by omega), hz]
  have ht : ((k : Int) * 64).toNat = 64 * k := by omega
  have hadd : (⟨g, 0, none⟩ : Addr).add (64 * k * 1) = ⟨g, 64 * k, none⟩ := by unfold Addr.add; split <;> simp_all
  simp only [Result.andThen, sliced, ht]
  rw [if_neg (by omega)]
  rw [Nat.mul_one] at hadd
  simp [hadd]

theorem rangeAt_setRow {w : World} {b o h : Nat} {cs : List Value} {ns : Array Value} (hr : w.rangeAt b o cs) (hne : b ≠ h) : (w.setRow h ns).rangeAt b o cs := fun j v hv => by
  rw [cell_setRow_other _ _ _ _ (by simpa using hne)]; exact hr j v hv
theorem list8 (l : List UInt32) (h : l.length = 8) : ∃ a0 a1 a2 a3 a4 a5 a6 a7, l = [a0, a1, a2, a3, a4, a5, a6, a7] := by
  match l, h with
  | [a0, a1, a2, a3, a4, a5, a6, a7], _ => exact ⟨a0, a1, a2, a3, a4, a5, a6, a7, rfl⟩
set_option maxHeartbeats 8000000 in
set_option maxRecDepth 100000 in
theorem pressAll_some (hs : List UInt32) (h8 : hs.length = 8) (g cap : Nat) (l : List UInt8) (w : World) (hl0 : 0 < l.length) (hl : l.length % 64 = 0) (hb : l.length ≤ 1099511627776) (hcap : l.length ≤ cap) (hcm : cap ≤ maxLen)
    (hc : ∀ i, i < l.length → w.cell? ⟨g, i, none⟩ = some (.int .u8 ((l.getD i 0).toNat : Int))) :
    Calls Try.prog 49 #[.agg (hs.map W32).toArray, .slice (some ⟨g, 0, none⟩) l.length cap] w fun e w' => e = .returned (.agg ((pAll hs l (l.length / 64)).map W32).toArray) ∧ Below w.heap.size w w' := by
  obtain ⟨N, hN⟩ : ∃ N, N = l.length / 64 := ⟨_, rfl⟩
  have hN1 : l.length = 64 * N := by omega
  have hN2 : ((l.length : Int)) / 64 = (N : Int) := by omega
  have hN3 : ((l.length : Int)).tdiv 64 = (N : Int) := by rw [Int.tdiv_eq_ediv_of_nonneg (by omega)]; exact hN2
  rw [← hN]
  obtain ⟨KC, hKC⟩ : ∃ KC, KC = K64.map W32 := ⟨_, rfl⟩
  have hKl : KC.length = 64 := by rw [hKC]; rfl
  have hK1 : KC.toArray.all (·.oneCell') = true := by rw [hKC]; exact W32_one _
  have hcon := fun W => shaConstants_any W
  have hprs := fun hs bs W h8 hb => shaPress_l hs bs K64 W h8 hb rfl
  rw [← hKC] at hcon hprs
  have hi31 : ∀ k, (Try.prog.info? 97).map (·.size) = some ((pAll hs l k).map W32).length := fun k => by rw [List.length_map, pAll_len _ _ _ h8]; kernel_rfl
  have hi63 : (Try.prog.info? 112).map (·.size) = some KC.length := by rw [hKl]; kernel_rfl
  have hrow : ∀ k, pAll hs l (k + 1) = press (pAll hs l k) (blk l k) K64 := fun _ => rfl
  have hp0 : pAll hs l 0 = hs := rfl
  have hp8 := fun k => pAll_len hs l k h8
  have hcbs : ∀ k, k < N → ∀ W, Below w.heap.size w W → W.rangeAt g (64 * k) ((blk l k).map B8) := fun k hk W hW j v hv => by
    have hlen := blk_len l k (by omega)
    have hj : j < 64 := by have := (List.getElem?_eq_some_iff.1 hv).1; simp [hlen] at this; exact this
    rw [List.getElem?_map, blk_get l k j (by omega) hj] at hv
    have hcc := hc (64 * k + j) (by omega)
    rw [hW.cell (block_lt hcc), hcc]
    simpa [B8] using hv
  have hgw : g < w.heap.size := block_lt (hc 0 hl0)
  have hble : ∀ k, k < N → (blk l k).length = 64 := fun k hk => blk_len l k (by omega)
  have hqq : ∀ k, pAll (pAll hs l 0) l k = pAll hs l k := fun _ => rfl
  have HQQ : Hid _ := hqq
  clear hqq
  have HKL : Hid _ := hKl
  have HK1 : Hid _ := hK1
  have HI31 : Hid _ := hi31
  have HI63 : Hid _ := hi63
  have HROW : Hid _ := hrow
  have HP8 : Hid _ := hp8
  have HCB : Hid _ := hcbs
  have HBL : Hid _ := hble
  rw [← hp0]
  generalize pAll hs l = PA at *
  generalize hHA : ((PA 0).map W32).toArray = HA
  have HHA : Hid _ := hHA
  have hlp : ¬ (l.length : Int) = 0 := by omega
  have HNN : Hid _ := hN1
  clear hN1 hl
  clear hN hKC hKl hK1 hi31 hi63 hrow hp0 hp8 hcbs hble hc hHA
  go_enter Try.func49, Try.ntmps49
  go_wp2_with fail
  refine (hcon _).mono ?_
  rintro e w1 ⟨rfl, hb1⟩
  have g0 := below_blk hb1 (i := w.heap.size) (by simp; omega) (alloc2_first _ _ _)
  have g1 := below_blk hb1 (i := w.heap.size + 1) (by simp) (heap_alloc2_new _ _ _)
  have hbw : Below w.heap.size w w1 := (((Below.refl _ _).alloc (Nat.le_refl _) _).alloc (by simp) _).trans (hb1.mono (by simp; omega))
  have hs1 : w.heap.size + 2 ≤ w1.heap.size := by have := hb1.size; simp at this; omega
  have G0 : Hid _ := g0
  have G1 : Hid _ := g1
  clear g0 g1 hb1 hcon
  go_wp2_with (refine wpList_store_row rfl 112 _ _ rfl w1.heap.size KC.toArray rfl rfl 112 _ (heap_at _ _ _ rfl) HI63.out (by simp [HKL.out]) HK1.out ?_)
  go_loopw [15] (fun i wr => ∃ k : Nat, k ≤ N ∧ i = .int .i64 k ∧ wr.heap[w.heap.size]? = some (.cells ((PA k).map W32).toArray 97 (0, 0)) ∧ wr.heap[w1.heap.size]? = some (.cells KC.toArray 112 (0, 0)) ∧ (∀ j, j ≠ w.heap.size → j < w1.heap.size → wr.heap[j]? = w1.heap[j]?) ∧ w1.heap.size < wr.heap.size ∧ Below w.heap.size w wr) (fun i _ => N - (intOf i).toNat)
  case atStart =>
    refine ⟨0, Nat.zero_le _, rfl, ?_, setRow_heap _ _ _ _ _ _ (heap_at _ _ _ rfl), fun j hj hj2 => ?_, by simp, below_setRow (hbw.alloc (by omega) _) (by omega) _⟩
    · rw [setRow_other _ _ _ _ (by omega), Below.heap_alloc _ _ _ (by omega), HHA.out]; exact G0.out
    · rw [setRow_other _ _ _ _ (by omega), Below.heap_alloc _ _ _ hj2]
  case round =>
    obtain ⟨k, hk, rfl, hh, hkk, hoth, hsz, hbel⟩ := hrel
    have HH : Hid _ := hh
    have HKK : Hid _ := hkk
    have HOTH : Hid _ := hoth
    by_cases hlt : k < N
    · have hk64 : 64 * k + 64 ≤ l.length := by have := HNN.out; omega
      have rK := rangeAt_row hkk
      have rB := HCB.out k hlt wr hbel
      have hnew := HROW.out k
      have hP := HP8.out k
      have hP1 := HP8.out (k + 1)
      have hB64 := HBL.out k hlt
      have hcall := fun W => hprs (PA k) (blk l k) W hP hB64
      rw [← hnew] at hcall
      have hib : (Try.prog.info? 101).map (·.size) = some ((blk l k).map B8).length := by rw [List.length_map, hB64]; kernel_rfl
      have hiK := HI63.out
      have hiH := HI31.out k
      have hiN := HI31.out (k + 1)
      have hsl := fun W => sliceFrom W g l.length cap k (by omega) hcap hcm
      have hslA : ∀ W, (Instr.sliceAt 31 (.slice (some ⟨g, 0, none⟩) l.length cap) (some (.int .i64 ((k : Int) * 64))) none none).run Try.prog W = .ok (.slice (some ⟨g, 64 * k, none⟩) (l.length - 64 * k) (cap - 64 * k)) W := fun W => by
        rw [run_sliceAt_slice W 31 _ _ _ _ (by kernel_rfl)]; exact hsl W
      have hwr : IntKind.i64.wrap ((k : Int) * 64) = (k : Int) * 64 := wrap_i64_in _ (by omega) (by omega)
      have har := fun W => run_arrayAt (P := Try.prog) W 101 5 64 (some ⟨g, 64 * k, none⟩) (l.length - 64 * k) (cap - 64 * k) Try.underlying101 (by omega)
      have hu32 := Try.underlying101
      have hu63 := Try.underlying112
      have rB' : wr.drew.rangeAt g (64 * k) ((blk l k).map B8) := by simpa using rB
      have rK' : wr.drew.rangeAt w1.heap.size 0 KC := by simpa using rK
      have hn1 : (((PA (k + 1)).map W32).toArray).all (·.oneCell') = true := W32_one _
      have hs8 : ((PA k).map W32).toArray.size = ((PA (k + 1)).map W32).toArray.size := by simp [hP, hP1]
      have HN1 : Hid _ := hn1
      have HS8 : Hid _ := hs8
      have HIN : Hid _ := hiN
      have HIH : Hid _ := hiH
      clear hh hkk hoth hnew hP hP1 hB64 hn1 hs8 hprs rB rK hiN hiH
      generalize (blk l k).map B8 = bcs at *
      obtain ⟨NB, hNB⟩ : ∃ NB, NB = ((PA (k + 1)).map W32).toArray := ⟨_, rfl⟩
      have hIN' : (Try.prog.info? 97).map (·.size) = some NB.size := by rw [hNB]; exact HIN.out
      have hN1' : NB.all (·.oneCell') = true := by rw [hNB]; exact HN1.out
      have hS8' : ((PA k).map W32).toArray.size = NB.size := by rw [hNB]; exact HS8.out
      rw [← hNB] at hcall
      have HNB : Hid _ := hNB
      have HIN' : Hid _ := hIN'
      have HN1' : Hid _ := hN1'
      have HS8' : Hid _ := hS8'
      clear hNB hIN' hN1' hS8' HN1 HS8 HIN
      go_wp2
      refine wp_region_held_drew (S := fun w' => w'.rangeAt g (64 * k) bcs ∧ w'.rangeAt w1.heap.size 0 KC) (by kernel_rfl) ⟨rB', rK'⟩ (fun hHeld => ?_)
      refine wpAnyH_take (i := 7) (oi := { dst := some 25, op := .load 112 (.tmp 5), type := 112, pos := _, after := #[], guard := none }) rfl (by kernel_rfl) (by kernel_rfl) (by kernel_rfl) (fun _ _ _ h => h) (yieldsIf_load_mid (by rfl) 112 (.tmp 5) rfl w1.heap.size 0 rfl KC _ (fun _ h => h.2) hu63 rfl hiK) hHeld ?_
      try simp only [Act.put, List.setIfInBounds_toArray, List.set_cons_zero, List.set_cons_succ]
      refine wpAnyH_take (i := 1) (oi := { dst := some 19, op := .move (.tmp 1), type := 31, pos := _, after := #[], guard := none }) (v := .slice (some ⟨g, 0, none⟩) l.length cap) rfl (by kernel_rfl) (by kernel_rfl) (by kernel_rfl) (fun _ _ _ h => h) (Or.inl ⟨by rfl, fun w' hw' => ?_⟩) hHeld ?_
      · first | (go_simp; done) | (go_simp; rfl)
      try simp only [Act.put, List.setIfInBounds_toArray, List.set_cons_zero, List.set_cons_succ]
      refine wpAnyH_take (i := 2) (oi := { dst := some 20, op := .move (.tmp 6), type := 3, pos := _, after := #[], guard := none }) (v := .int .i64 (k : Int)) rfl (by kernel_rfl) (by kernel_rfl) (by kernel_rfl) (fun _ _ _ h => h) (Or.inl ⟨by rfl, fun w' hw' => ?_⟩) hHeld ?_
      · first | (go_simp; done) | (go_simp; rfl)
      try simp only [Act.put, List.setIfInBounds_toArray, List.set_cons_zero, List.set_cons_succ]
      refine wpAnyH_take (i := 3) (oi := { dst := some 21, op := .binOp .mul 3 (.tmp 20) (.const (.int .i64 64)) 3, type := 3, pos := _, after := #[{ on := 2, ground := .data }], guard := none }) (v := .int .i64 ((k : Int) * 64)) rfl (by kernel_rfl) (by kernel_rfl) (by kernel_rfl) (fun _ _ _ h => h) (Or.inl ⟨by rfl, fun w' hw' => ?_⟩) hHeld ?_
      · first | (go_simp; done) | (go_simp; rfl)
      try simp only [Act.put, List.setIfInBounds_toArray, List.set_cons_zero, List.set_cons_succ]
      refine wpAnyH_take (i := 4) (oi := { dst := some 22, op := .slice 31 (.tmp 19) (some (.tmp 21)) none none, type := 31, pos := _, after := #[{ on := 1, ground := .data }, { on := 3, ground := .data }], guard := none }) (v := .slice (some ⟨g, 64 * k, none⟩) (l.length - 64 * k) (cap - 64 * k)) rfl (by kernel_rfl) (by kernel_rfl) (by kernel_rfl) (fun _ _ _ h => h) (Or.inl ⟨by rfl, fun w' hw' => ?_⟩) hHeld ?_
      · first | (go_simp; done) | (go_simp; rfl)
      try simp only [Act.put, List.setIfInBounds_toArray, List.set_cons_zero, List.set_cons_succ]
      refine wpAnyH_take (i := 5) (oi := { dst := some 23, op := .sliceToArrayPointer 101 (.tmp 22), type := 0, pos := _, after := #[{ on := 4, ground := .data }], guard := none }) (v := .pointer (some ⟨g, 64 * k, none⟩)) rfl (by kernel_rfl) (by kernel_rfl) (by kernel_rfl) (fun _ _ _ h => h) (Or.inl ⟨by rfl, fun w' hw' => ?_⟩) hHeld ?_
      · first | (go_simp; done) | (go_simp; rfl)
      try simp only [Act.put, List.setIfInBounds_toArray, List.set_cons_zero, List.set_cons_succ]
      refine wpAnyH_take (i := 6) (oi := { dst := some 24, op := .load 101 (.tmp 23), type := 101, pos := _, after := #[{ on := 5, ground := .data }], guard := none }) rfl (by kernel_rfl) (by kernel_rfl) (by kernel_rfl) (fun _ _ _ h => h) (yieldsIf_load_mid (by rfl) 101 (.tmp 23) rfl g (64 * k) rfl bcs _ (fun _ h => h.1) hu32 rfl hib) hHeld ?_
      try simp only [Act.put, List.setIfInBounds_toArray, List.set_cons_zero, List.set_cons_succ]
      refine wpAnyH_ready (rs := [0]) (by kernel_rfl) (by simp) ?_
      refine AllReadyH.cons (o := { dst := some 18, op := .load 97 (.tmp 2), type := 97, pos := _, after := #[], guard := none }) rfl (fun K hK => ?_) AllReadyH.nil
      rw [if_pos (by rfl)]
      refine wp_load_row 97 _ rfl w.heap.size rfl 97 ((PA k).map W32).toArray (0, 0) _ (by rw [heap_drew]; exact HH.out) Try.underlying97 rfl HIH.out ?_
      refine hK.out _ _ hHeld (fun _ => ?_)
      clear hK K
      try simp only [Act.put, List.setIfInBounds_toArray, List.set_cons_zero, List.set_cons_succ]
      refine wpAnyH_ready (rs := [8]) (by kernel_rfl) (by simp) ?_
      refine AllReadyH.cons (o := { dst := some 26, op := .call { callee := .value (.func 61), args := #[.tmp 18, .tmp 24, .tmp 25], argTypes := #[97, 101, 112] }, type := 97, pos := _, after := #[{ on := 0, ground := .data }, { on := 6, ground := .data }, { on := 7, ground := .data }], guard := none }) rfl (fun K hK => ?_) AllReadyH.nil
      rw [if_pos (by rfl)]
      go_wp2_with fail
      refine (hcall _).mono ?_
      rintro e w2 ⟨rfl, hb2⟩
      have hh2 : w2.heap[w.heap.size]? = some (.cells ((PA k).map W32).toArray 97 (0, 0)) := (hb2.block _ (by simp; omega)).trans HH.out
      have hH2 : w2.rangeAt g (64 * k) bcs ∧ w2.rangeAt w1.heap.size 0 KC := ⟨rangeAt_below hHeld.1 hb2, rangeAt_below hHeld.2 hb2⟩
      refine hK.out _ _ hH2 (fun _ => ?_)
      clear hK K
      try simp only [Act.put, List.setIfInBounds_toArray, List.set_cons_zero, List.set_cons_succ]
      refine wpAnyH_ready (rs := [9]) (by kernel_rfl) (by simp) ?_
      refine AllReadyH.cons (o := { dst := none, op := .store 97 (.tmp 2) (.tmp 26), type := 0, pos := _, after := #[{ on := 8, ground := .data }, { on := 8, ground := .chain }, { on := 0, ground := .phase }, { on := 1, ground := .phase }, { on := 2, ground := .phase }, { on := 3, ground := .phase }, { on := 4, ground := .phase }, { on := 5, ground := .phase }, { on := 6, ground := .phase }, { on := 7, ground := .phase }, { on := 8, ground := .phase }], guard := none }) rfl (fun K hK => ?_) AllReadyH.nil
      rw [if_pos (by rfl)]
      refine wp_store_row 97 _ _ rfl w.heap.size NB rfl rfl 97 _ hh2 HIN'.out HS8'.out HN1'.out ?_
      refine hK.out _ _ ⟨rangeAt_setRow hH2.1 (by omega), rangeAt_setRow hH2.2 (by omega)⟩ (fun _ => ?_)
      clear hK K
      try simp only [Act.put, List.setIfInBounds_toArray, List.set_cons_zero, List.set_cons_succ]
      refine wpAnyH_done (by kernel_rfl) ?_ _
      have HH2 : Hid _ := hh2
      clear hh2 hH2 hHeld
      go_wp2
      go_roundw
      case rel =>
        refine ⟨k + 1, by omega, by go_num, ?_, ?_, fun j hj hj2 => ?_, ?_, ?_⟩
        · rw [← HNB.out]; exact setRow_heap _ _ _ _ _ _ HH2.out
        · rw [setRow_other _ _ _ _ (by omega), hb2.block _ (by simp; omega)]; exact HKK.out
        · rw [setRow_other _ _ _ _ hj, hb2.block _ (by simp; omega)]; exact HOTH.out j hj hj2
        · have := hb2.size; simp at this ⊢; omega
        · exact below_setRow ((hbel.drew).trans (hb2.mono (by simp; omega))) (Nat.le_refl _) _
      case measure => simp [intOf]; omega
    · have hkN : k = N := by omega
      subst hkN
      have hr := (hoth (w.heap.size + 1) (by omega) (by omega)).trans G1.out
      obtain ⟨RS, hRS⟩ : ∃ RS, RS = ((PA k).map W32).toArray := ⟨_, rfl⟩
      have hri : (Try.prog.info? 97).map (·.size) = some RS.size := by rw [hRS]; exact HI31.out k
      have hr1 : RS.all (·.oneCell') = true := by rw [hRS]; exact W32_one _
      have hr8 : 8 = RS.size := by rw [hRS]; simp [HP8.out k]
      rw [← hRS] at hh
      have HH8 : Hid _ := hh
      have HR : Hid _ := hr
      have HRI : Hid _ := hri
      have HR1 : Hid _ := hr1
      have HR8 : Hid _ := hr8
      have HRS : Hid _ := hRS
      clear hh hr hri hr1 hr8 hRS hoth hkk hprs HH HKK HOTH
      go_wp2_with (first
        | (refine wpList_load_row rfl 97 _ rfl w.heap.size rfl 97 _ (0, 0) _ HH8.out Try.underlying97 rfl HRI.out ?_)
        | (refine wpList_store_row rfl 97 _ _ rfl (w.heap.size + 1) _ rfl rfl 97 _ HR.out HRI.out HR8.out HR1.out ?_))
      refine bodyPost_ret (v := .agg RS) ?_ rfl ⟨by rw [HRS.out, HQQ.out], below_setRow hbel (by omega) _⟩
      exact results_cell_row Try.results49 _ _ (w.heap.size + 1) 97 _ (0, 0) _ rfl (setRow_heap _ _ _ _ _ _ HR.out) Try.underlying97 rfl HRI.out

set_option maxHeartbeats 1000000 in
theorem pressAll_nil (hs : List UInt32) (h8 : hs.length = 8) (p : Option Addr) (cap : Nat) (w : World) :
    Calls Try.prog 49 #[.agg (hs.map W32).toArray, .slice p 0 cap] w fun e w' => e = .returned (.agg (hs.map W32).toArray) ∧ Below w.heap.size w w' := by
  obtain ⟨RS, hRS⟩ : ∃ RS, RS = (hs.map W32).toArray := ⟨_, rfl⟩
  have hri : (Try.prog.info? 97).map (·.size) = some RS.size := by rw [hRS]; simp only [List.size_toArray, List.length_map, h8]; kernel_rfl
  have hr1 : RS.all (·.oneCell') = true := by rw [hRS]; exact W32_one _
  have hr8 : 8 = RS.size := by rw [hRS]; simp [h8]
  rw [← hRS]
  have HRI : Hid _ := hri
  have HR1 : Hid _ := hr1
  have HR8 : Hid _ := hr8
  clear hri hr1 hr8 hRS
  go_enter Try.func49, Try.ntmps49
  go_wp2_with (first
    | (refine wpList_load_row rfl 97 _ rfl w.heap.size rfl 97 RS (0, 0) _ (alloc2_first _ _ _) Try.underlying97 rfl HRI.out ?_)
    | (refine wpList_store_row rfl 97 _ _ rfl (w.heap.size + 1) _ rfl rfl 97 _ (heap_alloc2_new _ _ _) HRI.out HR8.out HR1.out ?_))
  refine bodyPost_ret (v := .agg RS) ?_ rfl ⟨rfl, below_setRow (((Below.refl _ _).alloc (Nat.le_refl _) _).alloc (by simp) _) (by omega) _⟩
  exact results_cell_row Try.results49 _ _ (w.heap.size + 1) 97 _ (0, 0) _ rfl (setRow_heap _ _ _ _ _ _ (heap_alloc2_new _ _ _)) Try.underlying97 rfl HRI.out

end Go.Proofs.Ytefhjjjjbkkedaa

/- Contracts: sha's Press; ref's Press over lists; equal rows of words, of bytes; rows that came in. -/
namespace Go.Proofs.Ytefhjjjjbkkedaa
open Go.RowKit

theorem heap_alloc_eq (w : World) (o : Obj) : (w.alloc o).heap = w.heap.push o := rfl
theorem h2a (w : World) (a b : Obj) : ((w.alloc a).alloc b).drew.heap[w.heap.size]? = some a := by
  rw [heap_drew, Below.heap_alloc _ _ _ (by simp)]; exact heap_alloc_new _ _
theorem h2b (w : World) (a b : Obj) : ((w.alloc a).alloc b).drew.heap[w.heap.size + 1]? = some b := by
  rw [heap_drew]; exact heap_at _ _ _ (by simp)
theorem h3a (w : World) (a b c : Obj) : (((w.alloc a).alloc b).alloc c).drew.heap[w.heap.size]? = some a := by
  rw [heap_drew, Below.heap_alloc _ _ _ (by simp; omega), Below.heap_alloc _ _ _ (by simp)]; exact heap_alloc_new _ _
theorem h3b (w : World) (a b c : Obj) : (((w.alloc a).alloc b).alloc c).drew.heap[w.heap.size + 1]? = some b := by
  rw [heap_drew, Below.heap_alloc _ _ _ (by simp)]; exact heap_at _ _ _ (by simp)
theorem h3c (w : World) (a b c : Obj) : (((w.alloc a).alloc b).alloc c).drew.heap[w.heap.size + 2]? = some c := by
  rw [heap_drew]; exact heap_at _ _ _ (by simp)
theorem below_size {w w' : World} (h : Below w.heap.size w w') : w.heap.size ≤ w'.heap.size := h.size
theorem HW.below {w w' : World} {v : Value} {l : List UInt32} (h : HW w v l) (hb : Below w.heap.size w w') : HW w' v l := by
  obtain ⟨p, cap, h1, h2⟩ := h
  refine ⟨p, cap, h1, fun i hi => ?_⟩
  obtain ⟨b, o, e, hc⟩ := h2 i hi
  exact ⟨b, o, e, (hb.cell (block_lt hc)).trans hc⟩
theorem eq_words_self (w : World) (d : Nat) (t e : TypeId) (n : Nat) (ht : Try.prog.underlying t = some (.array n e)) (he : Try.prog.underlying e = some (.int .u32)) (hsz : ∀ w, (sizeOf e).run Try.prog w = .ok 1 w)
    (xs : List UInt32) (hx : xs.length = n) :
    (Op.equalIn (d + 2) t (.agg (xs.map W32).toArray) (.agg (xs.map W32).toArray)).run Try.prog w = .ok true w := by
  rw [Op.equalIn]
  simp only [Sem.run_bind, run_underlying ht, Result.andThen_ok, hsz, Std.Legacy.Range.forIn_eq_forIn_range', Std.Legacy.Range.size, Nat.sub_zero, Nat.add_sub_cancel, Nat.div_one]
  have hl : ∀ i ∈ List.range' 0 n 1, i < n := fun i hi => by simpa using (List.mem_range'_1.1 hi).2
  generalize List.range' 0 n 1 = l at hl ⊢
  induction l with
  | nil => simp
  | cons i l ih =>
    have hi : i < n := hl i (by simp)
    have px : (Go.part e (xs.map W32).toArray (i * 1)).run Try.prog w = .ok (W32 (xs.getD i 0)) w := by
      simp [Go.part, isAgg, run_underlying he, List.getD, List.getElem?_eq_getElem (show i < xs.length by omega)]
    have pe : (Op.equalIn (d + 1) e (W32 (xs.getD i 0)) (W32 (xs.getD i 0))).run Try.prog w = .ok true w := by
      unfold W32
      rw [run_equalIn_int w d e .u32 .u32 _ _ he]
      simp
    simp only [List.forIn_cons, Sem.run_bind, px, pe, Result.andThen_ok]
    simp only [Bool.not_true, Bool.false_eq_true, if_false, Sem.run_pure, Result.andThen_ok, Bool.true_and]
    exact ih fun j hj => hl j (by simp [hj])
theorem size_u32 (w : World) : (sizeOf 96).run Try.prog w = .ok 1 w := by
  obtain ⟨i0, hi, hz0, hz1, hz2⟩ := info_parts Try.infoU32
  simp [sizeOf, typeInfo, hi, hz1]
theorem size_u8 (w : World) : (sizeOf 5).run Try.prog w = .ok 1 w := by
  obtain ⟨i0, hi, hz0, hz1, hz2⟩ := info_parts Try.infoU8
  simp [sizeOf, typeInfo, hi, hz1]
theorem eql_words (w : World) (xs : List UInt32) (hx : xs.length = 8) : (binOp .eql 97 (.agg (xs.map W32).toArray) (.agg (xs.map W32).toArray)).run Try.prog w = .ok (.bool true) w := by
  rw [run_eql_struct, eq_words_self w 9998 97 96 8 Try.underlying97 Try.underlying96 size_u32 xs hx]
  rfl
theorem eql_digest (w : World) (xs ys : List UInt8) (hx : xs.length = 32) (hy : ys.length = 32) : (binOp .eql 23 (.agg (xs.map B8).toArray) (.agg (ys.map B8).toArray)).run Try.prog w = .ok (.bool (xs == ys)) w :=
  run_eql_bytes w 23 5 32 Try.underlying23 Try.underlying5 size_u8 xs ys hx hy


end Go.Proofs.Ytefhjjjjbkkedaa

/- Contract of the reference's Press. -/
namespace Go.Proofs.Ytefhjjjjbkkedaa
open Go.RowKit

attribute [local go_sem] U_not U_xor U_xor3 U_xor10 U_and U_or U_shr3 U_shr10 U_add U_addw

end Go.Proofs.Ytefhjjjjbkkedaa

/- Contract of ref's Press over lists. -/
namespace Go.Proofs.Ytefhjjjjbkkedaa
open Go.RowKit

end Go.Proofs.Ytefhjjjjbkkedaa

/- Contract of the reference's Pad. -/
namespace Go.Proofs.Ytefhjjjjbkkedaa
open Go.RowKit

/-- How many noughts are laid behind the byte 128. -/
def zeros (n : Nat) : Nat := (119 - n % 64) % 64
/-- A number's eight bytes, the highest first. -/
def be8 (n : Nat) : List UInt8 := (List.range 8).map fun i => UInt8.ofNat (n / 256 ^ (7 - i) % 256)
/-- A message padded. -/
def padL (l : List UInt8) : List UInt8 := l ++ 128 :: List.replicate (zeros l.length) 0 ++ be8 (8 * l.length)
theorem be8_take (n k : Nat) (h : k < 8) : (be8 n).take (k + 1) = (be8 n).take k ++ [UInt8.ofNat (n / 256 ^ (7 - k) % 256)] := by
  have hl : k < (be8 n).length := by simp [be8]; exact h
  rw [List.take_succ_eq_append_getElem hl]
  simp [be8]

/-- A slice's length. -/
def lenV : Value → Nat | .slice _ n _ => n | _ => 0

theorem FB.form' {base : Nat} {w : World} {v : Value} {l : List UInt8} (h : FB base w v l) : ∃ p cap, v = .slice p l.length cap := by
  rcases h.2 with ⟨h1, h2⟩ | ⟨g, cap, cur, h1, _⟩
  · exact ⟨none, 0, by rw [h1, h2]⟩
  · exact ⟨_, cap, h1⟩

theorem HB.cells' {w : World} {v : Value} {l : List UInt8} (h : HB w v l) : ∃ p cap, v = .slice p l.length cap ∧ (p = none → l = [] ∧ cap = 0) ∧ (∀ a, p = some a → ∀ (j : Nat) u, (l.map B8)[j]? = some u → w.cell? (a.add j) = some u) := by
  rcases h with ⟨rfl, p, cap, rfl, hpc⟩ | ⟨b, o, cap, rfl, _, _, hc⟩
  · exact ⟨p, cap, rfl, fun h => ⟨rfl, hpc h⟩, fun a _ j u hu => by simp at hu⟩
  · refine ⟨_, cap, rfl, fun h => by simp at h, fun a ha j u hu => ?_⟩
    simp only [Option.some.injEq] at ha
    subst ha
    have hj : j < l.length := by
      have := (List.getElem?_eq_some_iff.1 hu).1
      simpa using this
    have hadd : (⟨b, o, none⟩ : Addr).add j = ⟨b, o + j, none⟩ := by unfold Addr.add; split <;> simp_all
    rw [hadd, hc j hj]
    rw [List.getElem?_map, List.getElem?_eq_getElem hj] at hu
    simp only [Option.map_some, Option.some.injEq] at hu
    rw [← hu]
    simp [B8, List.getD, List.getElem?_eq_getElem hj]

theorem B8_one' (l : List UInt8) : ∀ u ∈ l.map B8, u.oneCell' = true := by
  intro u hu
  obtain ⟨x, _, rfl⟩ := List.mem_map.1 hu
  rfl

theorem be8_zero : be8 0 = List.replicate 8 0 := by decide

end Go.Proofs.Ytefhjjjjbkkedaa

/- Contract of wire's Join. -/
namespace Go.Proofs.Ytefhjjjjbkkedaa
open Go.RowKit

theorem flat_take (ls : List (List UInt8)) (k : Nat) (h : k < ls.length) : (ls.take (k + 1)).flatten = (ls.take k).flatten ++ ls.getD k [] := by
  rw [List.take_succ_eq_append_getElem h, List.flatten_append]
  simp [List.getD, List.getElem?_eq_getElem h]
theorem flat_le (ls : List (List UInt8)) (k : Nat) : (ls.take k).flatten.length ≤ ls.flatten.length := by
  have h : (ls.take k ++ ls.drop k).flatten = ls.flatten := by rw [List.take_append_drop]
  rw [← h, List.flatten_append, List.length_append]; omega

set_option maxHeartbeats 2000000 in
theorem join_any (g cap : Nat) (ls : List (List UInt8)) (w : World) (hl : ls.length ≤ 1048576) (hr : ls.flatten.length ≤ 1099511627776) (hc : ∀ i, i < ls.length → ∃ u, w.cell? ⟨g, i, none⟩ = some u ∧ HB w u (ls.getD i [])) :
    Calls Try.prog 30 #[.slice (some ⟨g, 0, none⟩) ls.length cap] w fun e w' => ∃ v, e = .returned v ∧ FB w.heap.size w' v ls.flatten ∧ Below w.heap.size w w' := by
  obtain ⟨i0, hi, hz0, hz1, hz2⟩ := info_parts Try.infoU8
  have HC : Hid _ := hc
  clear hc
  go_enter Try.func30, Try.ntmps30
  go_wp2
  go_loopw [3, 8] (fun v i wr => ∃ k : Nat, k ≤ ls.length ∧ i = .int .i64 k ∧ FB w.heap.size wr v (ls.take k).flatten ∧ Below w.heap.size w wr) (fun _ i _ => ls.length - (intOf i).toNat)
  case atStart => exact ⟨0, Nat.zero_le _, rfl, World.ownsRow_nil _ _ _ _, Below.refl _ _⟩
  case round =>
    obtain ⟨k, hk, rfl, hown, hbel⟩ := hrel
    have hsz := hbel.size
    by_cases hlt : k < ls.length
    · obtain ⟨u, hu, hbu⟩ := HC.out k hlt
      have hu' : wr.cell? ⟨g, k, none⟩ = some u := (hbel.cell (block_lt hu)).trans hu
      have hbu' := hbu.below hbel
      have hft := flat_take ls k hlt
      have hle := flat_le ls (k + 1)
      rw [hft, List.length_append] at hle
      have HFT : Hid _ := hft
      clear hft hbu hu
      generalize ls.getD k [] = l at *
      generalize (ls.take k).flatten = pl at *
      obtain ⟨p, cp, rfl, hpn, hpc⟩ := hbu'.cells'
      cases p with
      | none =>
        obtain ⟨rfl, rfl⟩ := hpn rfl
        clear hpn hpc hbu'
        go_wp2_with (at_builtin; refine wpList_append_own_none rfl (.tmp 12) (.tmp 13) 31 rfl w.heap.size 5 i0 1 Try.underlying31 hi u3 _ _ rfl (by exact hown) rfl ?_)
        go_roundw
        case rel => exact ⟨k + 1, by omega, by go_num, by rw [HFT.out, List.append_nil]; exact hown, hbel⟩
        case measure => simp [intOf]; omega
      | some a =>
        have HPC : Hid _ := hpc a rfl
        clear hpn hpc hbu'
        go_wp2_with (at_builtin; refine wpList_append_own _ rfl (.tmp 12) (.tmp 13) 31 rfl w.heap.size 5 i0 (.int .u8 0) 1 1 Try.underlying31 hi hz0 hz1 hz2 rfl (by decide) u3 _ _ rfl (by exact hown) a l.length cp (l.map B8) rfl (by simp) (by exact HPC.out) (B8_one' l) (by unfold maxLen; omega) (by omega) hsz ?_; intro v1 w1 hown1 hgr1 hn1; have hb1 : Below w.heap.size w w1 := hbel.grown hgr1 hsz (fun j hj => (hown.lt j hj).1))
        go_roundw
        case rel =>
          refine ⟨k + 1, by omega, by go_num, ?_, hb1⟩
          rw [HFT.out]
          unfold FB
          rw [List.length_append, List.map_append]
          exact hown1
        case measure => simp [intOf]; omega
    · have ht : ls.take k = ls := List.take_of_length_le (by omega)
      rw [ht] at hown
      clear ht
      go_wp2
      go_ret
      exact ⟨_, rfl, hown, hbel⟩

end Go.Proofs.Ytefhjjjjbkkedaa

/- Contracts of sha's padding and Pad. -/
namespace Go.Proofs.Ytefhjjjjbkkedaa
open Go.RowKit

/-- What stands behind a message of n bytes. -/
def padT (n : Nat) : List UInt8 := 128 :: List.replicate (zeros n) 0 ++ be8 (8 * n)
theorem padL_eq (l : List UInt8) : padL l = l ++ padT l.length := by unfold padL padT; simp
theorem be8_rev (m : Nat) : (W1.le 8 m).reverse = be8 m := by
  apply List.ext_getElem?
  intro i
  have hl := W1.le_length 8 m
  by_cases h : i < 8
  · rw [List.getElem?_reverse (by omega), hl, W1.le_get 8 m _ (by omega)]
    unfold be8
    simp [List.getElem?_map, List.getElem?_range h]
  · rw [List.getElem?_eq_none (by simp [hl]; omega), List.getElem?_eq_none (by simp [be8]; omega)]
theorem HB.alloc {w : World} {v : Value} {l : List UInt8} (h : HB w v l) (o : Obj) : HB (w.alloc o) v l := h.below ((Below.refl _ _).alloc (Nat.le_refl _) o)
theorem HB.drew' {w : World} {v : Value} {l : List UInt8} (h : HB w v l) : HB w.drew v l := h.below (Below.refl _ _).drew
theorem HB.newRow (X : World) (n k : Nat) (hn : n = X.heap.size) (cs : Array Value) (l : List UInt8) (hk : k = l.length) (hcs : cs = (l.map B8).toArray) (hl : l.length ≤ 1099511627776) : HB (X.alloc (.cells cs 5)) (.slice (some ⟨n, 0, none⟩) k k) l := by
  subst hn hk
  refine .inr ⟨_, 0, _, rfl, Nat.le_refl _, by unfold maxLen; omega, fun i hi => ?_⟩
  rw [Nat.zero_add, cell_of_row _ _ i _ _ _ (heap_alloc_new X _), hcs]
  simp [B8, List.getD, List.getElem?_eq_getElem hi]

theorem FB.lower {B B' : Nat} {w : World} {v : Value} {l : List UInt8} (h : FB B w v l) (hB : B' ≤ B) : FB B' w v l := by
  refine ⟨h.1, ?_⟩
  rcases h.2 with h1 | ⟨g, cap, cur, h1, h2, h3⟩
  · exact .inl h1
  · exact .inr ⟨g, cap, cur, h1, Nat.le_trans hB h2, h3⟩
theorem below_alloc {B : Nat} {a w : World} (hB : B ≤ w.heap.size) (h : Below B a w) (o : Obj) : Below B a (w.alloc o) := h.alloc hB o
theorem below_trans {B C : Nat} {a b c : World} (k : Below C b c) (hB : B ≤ C) (h : Below B a b) : Below B a c := h.trans (k.mono hB)
theorem three_cells (X : World) (n : Nat) (a b c : Value) (la lb lc : List UInt8) (hn : n = X.heap.size) (ha : HB (X.alloc (.cells #[a, b, c] 31)) a la) (hb : HB (X.alloc (.cells #[a, b, c] 31)) b lb) (hc : HB (X.alloc (.cells #[a, b, c] 31)) c lc) :
    ∀ i, i < [la, lb, lc].length → ∃ u, (X.alloc (.cells #[a, b, c] 31)).cell? ⟨n, i, none⟩ = some u ∧ HB (X.alloc (.cells #[a, b, c] 31)) u ([la, lb, lc].getD i []) := by
  intro i hi
  subst hn
  rcases (show i = 0 ∨ i = 1 ∨ i = 2 by simp at hi; omega) with rfl | rfl | rfl
  · exact ⟨a, cell_of_row _ _ 0 _ _ _ (heap_alloc_new X _), ha⟩
  · exact ⟨b, cell_of_row _ _ 1 _ _ _ (heap_alloc_new X _), hb⟩
  · exact ⟨c, cell_of_row _ _ 2 _ _ _ (heap_alloc_new X _), hc⟩

theorem join_under (B g cap : Nat) (ls : List (List UInt8)) (w0 w : World) (hX : Below B w0 w) (hB : B ≤ w.heap.size) (hl : ls.length ≤ 1048576) (hr : ls.flatten.length ≤ 1099511627776) (hc : ∀ i, i < ls.length → ∃ u, w.cell? ⟨g, i, none⟩ = some u ∧ HB w u (ls.getD i [])) :
    Calls Try.prog 30 #[.slice (some ⟨g, 0, none⟩) ls.length cap] w fun e w' => ∃ v, e = .returned v ∧ FB B w' v ls.flatten ∧ Below B w0 w' := by
  refine (join_any g cap ls w hl hr hc).mono ?_
  rintro e w' ⟨v, rfl, h1, h2⟩
  exact ⟨v, rfl, h1.lower hB, hX.trans (h2.mono hB)⟩

set_option maxHeartbeats 4000000 in
theorem padding_any (n : Nat) (w : World) (hn : n ≤ 1099511627776) :
    Calls Try.prog 66 #[.int .i64 (n : Int)] w fun e w' => ∃ v, e = .returned v ∧ FB w.heap.size w' v (padT n) ∧ Below w.heap.size w w' := by
  obtain ⟨i0, hi, hz0, hz1, hz2⟩ := info_parts Try.infoU8
  have hZ : zeros n = 63 - (n + 8) % 64 := by unfold zeros; omega
  obtain ⟨Z, hZZ⟩ : ∃ Z, Z = zeros n := ⟨_, rfl⟩
  have hZ1 : (63 : Int) - ((n : Int) + 8) % 64 = (Z : Int) := by omega
  have hZ2 : Z ≤ 63 := by omega
  obtain ⟨ZA, hZA⟩ : ∃ ZA, ZA = madeCells #[.int .u8 0] Z := ⟨_, rfl⟩
  have hZL : ZA = ((List.replicate Z (0 : UInt8)).map B8).toArray := by
    rw [← Array.toList_inj, hZA, toList_madeCells_one]; simp [B8]
  have hmk : ∀ W, (Instr.makeSlice 31 (.int .i64 (Z : Int)) (.int .i64 (Z : Int))).run Try.prog W = .ok (.slice (some ⟨W.heap.size, 0, none⟩) Z Z) (W.alloc (.cells ZA 5)) := fun W => by
    rw [run_make W 31 5 i0 (.int .u8 0) Try.underlying31 hi hz0 .i64 .i64 _ _ (by omega) (by omega) (by rw [hz2]; omega) (by omega), hz1, Int.toNat_natCast, Nat.mul_one, hZA]
    rfl
  have hput := put_ok (8 * n) 8 
  have hpt : padT n = [([128] : List UInt8), List.replicate Z 0, (W1.le 8 (8 * n)).reverse].flatten := by rw [be8_rev, hZZ]; unfold padT; simp
  have h8n : ((8 * n : Nat) : Int) = 8 * (n : Int) := by omega
  have HZL : Hid _ := hZL
  have HPT : Hid _ := hpt
  have hfl : [([128] : List UInt8), List.replicate Z 0, (W1.le 8 (8 * n)).reverse].flatten.length ≤ 1099511627776 := by simp [W1.le_length]; omega
  have HFL : Hid _ := hfl
  have hpw := fun W => put_ok (8 * n) 8 W (by decide) (by decide) (by omega) (by show 8 * n < 18446744073709551616; omega)
  rw [h8n] at hpw
  have hLl : (W1.le 8 (8 * n)).length = 8 := W1.le_length _ _
  generalize W1.le 8 (8 * n) = L at *
  have HLL : Hid _ := hLl
  clear hZ hZZ hZA hZL hput hpt h8n hfl hi hz0 hz1 hz2 hLl
  go_enter Try.func66, Try.ntmps66
  go_wp2_with fail
  refine (hpw _).mono ?_
  rintro e w1 ⟨rfl, hfb, hb1⟩
  have hhb := hfb.hb
  have HHB : Hid _ := hhb
  have hs1 := hb1.size
  clear hpw hfb hhb
  go_wp2
  go_region_with (first
    | (go_at_call 74; refine (turned_any (.slice (some ⟨w.heap.size, 0, none⟩) 8 8) L _ (by rw [HLL.out]; decide) (by repeat (first | exact HHB.out | refine HB.alloc ?_ _ | refine HB.drew' ?_))).mono ?_; rintro e wt ⟨rfl, hfT, hbT⟩; have hT' := hfT.hb; clear hfT; (try rw [HLL.out] at hT'); simp at hT'; rw [HLL.out])
    | (go_at_call 30; refine (join_under w.heap.size _ _ [[128], List.replicate Z 0, L.reverse] w _ ?_ ?_ (by simp) HFL.out ?_).mono ?_; (focus (repeat (first | with_reducible exact hb1 | (with_reducible refine Below.drew ?_) | ((with_reducible refine below_alloc ?_ ?_ _); (first | (focus (simp; omega)) | (focus (simp; done)) | (have := hbT.size; simp at this ⊢; omega))) | ((with_reducible refine below_trans hbT ?_ ?_); (first | (focus (simp; omega)) | (focus (simp; done))))))); (first | (focus (simp; omega)) | (focus (simp; done)) | (have := hbT.size; simp at this ⊢; omega)); (refine three_cells _ _ _ _ _ _ _ _ ?_ ?_ ?_ ?_; (focus (simp; done)); (focus (repeat (first | ((with_reducible refine HB.newRow _ _ _ ?_ _ _ ?_ ?_ ?_); (focus (simp; done)); rfl; rfl; decide) | (with_reducible refine HB.alloc ?_ _) | (with_reducible refine HB.drew' ?_) | (with_reducible refine HB.below ?_ hbT)))); (focus (repeat (first | ((with_reducible refine HB.newRow _ _ _ ?_ _ _ ?_ ?_ ?_); (focus (simp; done)); (focus (simp; done)); exact HZL.out; (focus (simp; omega))) | (with_reducible refine HB.alloc ?_ _) | (with_reducible refine HB.drew' ?_) | (with_reducible refine HB.below ?_ hbT)))); (focus (repeat (first | with_reducible exact hT' | (with_reducible refine HB.alloc ?_ _) | (with_reducible refine HB.drew' ?_) | (with_reducible refine HB.below ?_ hbT))))); rintro e wj ⟨vj, rfl, hfJ, hbJ⟩))
  all_goals
    go_wp2
    go_ret
    rw [HPT.out]
    exact ⟨_, rfl, hfJ, hbJ⟩

end Go.Proofs.Ytefhjjjjbkkedaa

/- Contract of sha's Pad. -/
namespace Go.Proofs.Ytefhjjjjbkkedaa
open Go.RowKit

theorem two_cells (X : World) (n : Nat) (a b : Value) (la lb : List UInt8) (hn : n = X.heap.size) (ha : HB (X.alloc (.cells #[a, b] 31)) a la) (hb : HB (X.alloc (.cells #[a, b] 31)) b lb) :
    ∀ i, i < [la, lb].length → ∃ u, (X.alloc (.cells #[a, b] 31)).cell? ⟨n, i, none⟩ = some u ∧ HB (X.alloc (.cells #[a, b] 31)) u ([la, lb].getD i []) := by
  intro i hi
  subst hn
  rcases (show i = 0 ∨ i = 1 by simp at hi; omega) with rfl | rfl
  · exact ⟨a, cell_of_row _ _ 0 _ _ _ (heap_alloc_new X _), ha⟩
  · exact ⟨b, cell_of_row _ _ 1 _ _ _ (heap_alloc_new X _), hb⟩

set_option maxHeartbeats 1000000 in
theorem shaPad_any (v : Value) (l : List UInt8) (w : World) (hr : l.length ≤ 4294967296) (h : HB w v l) :
    Calls Try.prog 51 #[v] w fun e w' => ∃ v', e = .returned v' ∧ FB w.heap.size w' v' (padL l) ∧ Below w.heap.size w w' := by
  have HV : Hid _ := h
  obtain ⟨p, cap, rfl, _, _⟩ := h.cells'
  have hfl : [l, padT l.length].flatten.length ≤ 1099511627776 := by
    unfold padT zeros; simp [be8]; omega
  have HFL : Hid _ := hfl
  have HPL : Hid _ := show padL l = [l, padT l.length].flatten by rw [padL_eq]; simp
  clear h hfl
  go_enter Try.func51, Try.ntmps51
  go_wp2_with fail
  refine (padding_any l.length _ (by omega)).mono ?_
  rintro e w1 ⟨v1, rfl, hf1, hb1⟩
  have hs1 := hb1.size
  have HV1 : Hid _ := HB.below HV.out hb1
  obtain ⟨p1, c1, rfl⟩ := hf1.form'
  have HF1 : Hid _ := hf1.hb
  clear hf1
  go_wp2_with fail
  refine (join_under w.heap.size _ _ [l, padT l.length] w _ (below_alloc (by omega) hb1 _) (by simp; omega) (by simp) HFL.out (two_cells _ _ _ _ _ _ rfl (HB.alloc HV1.out _) (HB.alloc HF1.out _))).mono ?_
  rintro e wj ⟨vj, rfl, hfJ, hbJ⟩
  go_wp2
  go_ret
  rw [HPL.out]
  exact ⟨_, rfl, hfJ, hbJ⟩

end Go.Proofs.Ytefhjjjjbkkedaa

/- The reference's roots and primes, and its constants. -/
namespace Go.Proofs.Ytefhjjjjbkkedaa
open Go.RowKit

/-- Is x to the power n (2 or 3), 32 bits of it behind the point, at most p? -/
def powB (n x p : Nat) : Bool := if n = 2 then decide (x * x ≤ p * 18446744073709551616) else decide (x * x * x ≤ p * Q96)
/-- The root, bit by bit, behind j bits. -/
def rto (n p : Nat) : Nat → Nat
  | 0 => 0
  | j + 1 => if powB n (rto n p j + 2 ^ (37 - j)) p then rto n p j + 2 ^ (37 - j) else rto n p j

theorem rto_bound (n p j : Nat) (hj : j ≤ 38) : rto n p j + 2 ^ (38 - j) ≤ 2 ^ 38 := by
  induction j with
  | zero => simp [rto]
  | succ j ih =>
    have h1 := ih (by omega)
    have e : 2 ^ (38 - j) = 2 ^ (37 - j) + 2 ^ (37 - j) := by rw [show 38 - j = (37 - j) + 1 by omega, Nat.pow_succ]; omega
    rw [show 38 - (j + 1) = 37 - j by omega]
    have hp : 0 < 2 ^ (37 - j) := Nat.pow_pos (by decide)
    simp only [rto]
    split <;> omega

/-- The i-th prime, from 0 on. -/
def prim (i : Nat) : Nat := P64.getD i 0
/-- No number from 2 on, below k, goes into n. -/
def noDiv (n k : Nat) : Bool := (List.range k).all fun j => decide (j < 2) || n % j != 0
def isP (n : Nat) : Bool := decide (2 ≤ n) && noDiv n n
/-- How many primes there are up to n. -/
def cnt : Nat → Nat
  | 0 => 0
  | n + 1 => cnt n + if isP (n + 1) then 1 else 0
theorem noDiv_succ (n k : Nat) (h : 2 ≤ k) : noDiv n (k + 1) = (noDiv n k && (n % k != 0)) := by
  unfold noDiv; rw [List.range_succ, List.all_append]
  simp only [List.all_cons, List.all_nil, Bool.and_true]
  rw [decide_eq_false (show ¬ k < 2 by omega)]; rfl
theorem noDiv_two (n : Nat) : noDiv n 2 = true := by simp [noDiv, List.range_succ]
theorem tabA : ((List.range 312).all fun n => (List.range 19).all fun k => !(decide (2 ≤ n) && decide (2 ≤ k) && decide (n < k * k) && (decide (k = 2) || decide ((k - 1) * (k - 1) ≤ n))) || (noDiv n k == isP n)) = true := by decide +kernel
theorem tabB : ((List.range 312).all fun n => !(isP n) || (P64.getD (cnt n - 1) 0 == n)) = true := by decide +kernel
theorem tabC : ((List.range 312).all fun n => decide (n = 311) || decide (cnt n ≤ 63)) = true ∧ cnt 311 = 64 := by decide +kernel
theorem isP_of (n k : Nat) (h2 : 2 ≤ n) (hn : n ≤ 311) (hk : 2 ≤ k) (h1 : n < k * k) (h3 : k = 2 ∨ (k - 1) * (k - 1) ≤ n) : noDiv n k = isP n := by
  have hk18 : k ≤ 18 := by
    rcases Nat.lt_or_ge k 19 with h | h
    · omega
    · rcases h3 with h3 | h3
      · omega
      · have : 18 * 18 ≤ (k - 1) * (k - 1) := Nat.mul_le_mul (by omega) (by omega)
        omega
  have t := tabA
  rw [List.all_eq_true] at t
  have t1 := t n (List.mem_range.2 (by omega))
  rw [List.all_eq_true] at t1
  have t2 := t1 k (List.mem_range.2 (by omega))
  have t3 : ¬k = 2 ∧ n < (k - 1) * (k - 1) ∨ noDiv n k = isP n := by simpa [h2, hk, h1] using t2
  rcases t3 with ⟨t4, t5⟩ | t4
  · rcases h3 with h3 | h3
    · exact absurd h3 t4
    · omega
  · exact t4
theorem cnt_small (n : Nat) (hn : n ≤ 311) (h : cnt n ≤ 63) : n ≤ 310 := by
  rcases Nat.lt_or_ge n 311 with h1 | h1
  · omega
  · have : n = 311 := by omega
    subst this
    have := tabC.2
    omega
theorem prime_is (n : Nat) (hn : n ≤ 311) (h : isP n = true) : prim (cnt n - 1) = n := by
  have t := tabB
  rw [List.all_eq_true] at t
  have t1 := t n (List.mem_range.2 (by omega))
  unfold prim
  simpa [h] using t1

end Go.Proofs.Ytefhjjjjbkkedaa

/- Contracts of the reference's Constant, Start and Constants. -/
namespace Go.Proofs.Ytefhjjjjbkkedaa
open Go.RowKit

/-- The i-th constant; none: 0. -/
def konst (i : Int) : UInt32 := if 0 ≤ i ∧ i ≤ 63 then K64.getD i.toNat 0 else 0
/-- The i-th word of the start; none: 0. -/
def start (i : Int) : UInt32 := if 0 ≤ i ∧ i ≤ 7 then H8.getD i.toNat 0 else 0
theorem tabK : ((List.range 64).all fun i => UInt32.ofNat (rto 3 (prim i) 38) == K64.getD i 0) = true := by decide +kernel
theorem tabH : ((List.range 8).all fun i => UInt32.ofNat (rto 2 (prim i) 38) == H8.getD i 0) = true := by decide +kernel
theorem tabP : ((List.range 64).all fun i => decide (prim i < 4294967296)) = true := by decide +kernel
theorem konst_in (i : Nat) (h : i ≤ 63) : UInt32.ofNat (rto 3 (prim i) 38) = konst (i : Int) := by
  have t := tabK
  rw [List.all_eq_true] at t
  have t1 := t i (List.mem_range.2 (by omega))
  unfold konst
  rw [if_pos (by omega), Int.toNat_natCast]
  simpa using t1
theorem start_in (i : Nat) (h : i ≤ 7) : UInt32.ofNat (rto 2 (prim i) 38) = start (i : Int) := by
  have t := tabH
  rw [List.all_eq_true] at t
  have t1 := t i (List.mem_range.2 (by omega))
  unfold start
  rw [if_pos (by omega), Int.toNat_natCast]
  simpa using t1
theorem prim_lt (i : Nat) (h : i ≤ 63) : prim i < 4294967296 := by
  have t := tabP
  rw [List.all_eq_true] at t
  simpa using t i (List.mem_range.2 (by omega))
theorem konst_out (i : Int) (h : i < 0 ∨ 63 < i) : konst i = 0 := by unfold konst; rw [if_neg (by omega)]
theorem start_out (i : Int) (h : i < 0 ∨ 7 < i) : start i = 0 := by unfold start; rw [if_neg (by omega)]

theorem K64_take (k : Nat) (h : k < 64) : K64.take (k + 1) = K64.take k ++ [konst (k : Int)] := by
  have hl : k < K64.length := h
  rw [List.take_succ_eq_append_getElem hl]
  unfold konst
  rw [if_pos (by omega), Int.toNat_natCast]
  simp [List.getD, List.getElem?_eq_getElem hl]

end Go.Proofs.Ytefhjjjjbkkedaa

/- Contracts of sha's Sum, Constant, Start, Press. -/
namespace Go.Proofs.Ytefhjjjjbkkedaa
open Go.RowKit

theorem padL_mod (l : List UInt8) : (padL l).length % 64 = 0 := by
  unfold padL zeros; simp [be8]; omega
theorem padL_pos (l : List UInt8) : 0 < (padL l).length := by unfold padL; simp [be8]; omega
theorem padL_le (l : List UInt8) : (padL l).length ≤ l.length + 72 := by unfold padL zeros; simp [be8]; omega
/-- The digest of a message. -/
def shaL (l : List UInt8) : List UInt8 := dig8 (pAll H8 (padL l) ((padL l).length / 64))

set_option maxHeartbeats 1000000 in
theorem shaSum_any (v : Value) (l : List UInt8) (w : World) (hr : l.length ≤ 4294967296) (h : HB w v l) :
    Calls Try.prog 41 #[v] w fun e w' => e = .returned (.agg ((shaL l).map B8).toArray) ∧ Below w.heap.size w w' := by
  have hst := fun W => shaStarts_any W
  have hm := padL_mod l
  have hp := padL_pos l
  have hle := padL_le l
  obtain ⟨RS, hRS⟩ : ∃ RS, RS = ((shaL l).map B8).toArray := ⟨_, rfl⟩
  have hdg := fun W => digest_any (pAll H8 (padL l) ((padL l).length / 64)) W (pAll_len _ _ _ rfl)
  have hdg' : ∀ W, Calls Try.prog 48 #[.agg ((pAll H8 (padL l) ((padL l).length / 64)).map W32).toArray] W fun e w' => e = .returned (.agg RS) ∧ Below W.heap.size W w' := by rw [hRS]; exact hdg
  have hRl : RS.size = 32 := by rw [hRS]; simp [shaL, dig8_len]
  have hri : (Try.prog.info? 23).map (·.size) = some RS.size := by rw [hRl]; kernel_rfl
  have hr1 : RS.all (·.oneCell') = true := by rw [hRS]; exact B8_onea _
  have hpa := fun g cap W => pressAll_some H8 rfl g cap (padL l) W hp hm (by omega)
  rw [← hRS]
  generalize pAll H8 (padL l) ((padL l).length / 64) = SP at *
  obtain ⟨HC, hHC⟩ : ∃ HC, HC = (H8.map W32).toArray := ⟨_, rfl⟩
  rw [← hHC] at hst hpa
  have HV : Hid _ := h
  have HRI : Hid _ := hri
  have HR1 : Hid _ := hr1
  have HR8 : Hid _ := hRl.symm
  have hpl0 : (padL l).length ≠ 0 := by omega
  clear h hri hr1 hRl hRS hHC hdg
  go_enter Try.func41, Try.ntmps41
  go_wp2_with fail
  refine (hst _).mono ?_
  rintro e w1 ⟨rfl, hb1⟩
  have g0 := below_blk hb1 (i := w.heap.size) (by simp) (heap_alloc_new _ _)
  have hw1 : Below w.heap.size w w1 := ((Below.refl _ _).alloc (Nat.le_refl _) _).trans (hb1.mono (by simp))
  have hs1 : w.heap.size + 1 ≤ w1.heap.size := by have := hb1.size; simpa using this
  have HV1 : Hid _ := HB.below HV.out hw1
  have G0 : Hid _ := g0
  clear g0 hb1 hst
  go_wp2_with fail
  refine (shaPad_any v l w1 hr HV1.out).mono ?_
  rintro e w2 ⟨v2, rfl, hf2, hb2⟩
  have hs2 := hb2.size
  have hw2 : Below w.heap.size w w2 := hw1.trans (hb2.mono (by omega))
  have g0 := (hb2.block w.heap.size (by omega)).trans G0.out
  have G2 : Hid _ := g0
  clear g0 G0
  have hfc := hf2
  rcases hf2.2 with ⟨h1, h2⟩ | ⟨g, cap, cur, h1, h2, h3, h4, h5, h6⟩
  · exact absurd h2 hpl0
  subst h1
  have hcel : ∀ i, i < (padL l).length → w2.cell? ⟨g, i, none⟩ = some (.int .u8 (((padL l).getD i 0).toNat : Int)) := fun i hi => by
    have := hfc.cellAt (g := g) i (by omega)
    rw [this, List.getElem?_map, List.getElem?_eq_getElem hi]
    simp [B8, List.getD, List.getElem?_eq_getElem hi]
  have hpa2 := hpa g cap w2 h4 h5 hcel
  clear hpa hf2 hfc h2 h3 h6 hcel hb2
  go_wp2_with fail
  refine hpa2.mono ?_
  rintro e w3 ⟨rfl, hb3⟩
  have hs3 := hb3.size
  have g0 := (hb3.block w.heap.size (by omega)).trans G2.out
  have G3 : Hid _ := g0
  have hw3 : Below w.heap.size w w3 := hw2.trans (hb3.mono (by omega))
  clear g0 G2 hb3
  go_wp2_with fail
  refine (hdg' _).mono ?_
  rintro e w4 ⟨rfl, hb4⟩
  have g0 := (hb4.block w.heap.size (by omega)).trans G3.out
  have G4 : Hid _ := g0
  have hw4 : Below w.heap.size w w4 := hw3.trans (hb4.mono (by omega))
  clear g0 G3 hb4
  go_wp2_with (refine wpList_store_row rfl 23 _ _ rfl w.heap.size _ rfl rfl 23 _ G4.out HRI.out HR8.out HR1.out ?_)
  refine bodyPost_ret (v := .agg RS) ?_ rfl ⟨rfl, below_setRow hw4 (Nat.le_refl _) _⟩
  exact results_cell_row Try.results41 _ _ w.heap.size 23 _ (0, 0) _ rfl (setRow_heap _ _ _ _ _ _ G4.out) Try.underlying23 rfl HRI.out

end Go.Proofs.Ytefhjjjjbkkedaa

/- Contract of ref's Sum. -/
namespace Go.Proofs.Ytefhjjjjbkkedaa
open Go.RowKit

theorem splice_all {α : Type} (Z cs : List α) (h : cs.length = Z.length) : splice Z 0 cs = cs := by
  unfold splice
  simp [h]
theorem start_nat (k : Nat) (h : k < 8) : U (start (k : Int)) = U (H8.getD k 0) := by
  unfold start
  rw [if_pos ⟨by omega, by omega⟩]
  simp
theorem B8_one1 (l : List UInt8) : ∀ v ∈ l.map B8, v.oneCell' = true := by
  intro v hv
  simp only [List.mem_map] at hv
  obtain ⟨x, _, rfl⟩ := hv
  rfl
theorem sliceBlk (w : World) (b : Nat) : (Instr.sliceAt 101 (.pointer (some ⟨b, 0, none⟩)) none none none).run Try.prog w = .ok (.slice (some ⟨b, 0, none⟩) 64 64) w := by
  have ha : Try.prog.arrayLen 101 = 64 := by kernel_rfl
  have hu : Try.prog.underlying 101 = some (.array (Try.prog.arrayLen 101) (Try.prog.elem 101)) := by kernel_rfl
  have he : Try.prog.elem 101 = 5 := by kernel_rfl
  rw [run_sliceAt_array_all w 101 _ hu, he, size_u8, ha]
  have hadd : (⟨b, 0, none⟩ : Addr).add (0 * 1) = ⟨b, 0, none⟩ := by unfold Addr.add; split <;> simp_all
  simp only [Result.andThen, slicedAt]
  rw [if_neg (by decide), hadd]
theorem sliceWin (w : World) (g n cap k : Nat) (h : 64 * k + 64 ≤ cap) : (Instr.slice 31 (.slice (some ⟨g, 0, none⟩) n cap) (some (.int .i64 (64 * (k : Int)))) (some (.int .i64 (64 * (k : Int) + 64))) none).run Try.prog w = .ok (.slice (some ⟨g, 64 * k, none⟩) 64 (cap - 64 * k)) w := by
  have := Lib.run_slice_window (P := Try.prog) w 31 5 Try.underlying31 size_u8 g 0 n cap (64 * k) (64 * k + 64) (by omega) h
  rw [show (64 * k + 64) - 64 * k = 64 by omega, Nat.zero_add] at this
  simpa using this
theorem sliceWinA (w : World) (g n cap k : Nat) (h : 64 * k + 64 ≤ cap) : (Instr.sliceAt 31 (.slice (some ⟨g, 0, none⟩) n cap) (some (.int .i64 (64 * (k : Int)))) (some (.int .i64 (64 * (k : Int) + 64))) none).run Try.prog w = .ok (.slice (some ⟨g, 64 * k, none⟩) 64 (cap - 64 * k)) w := by
  rw [run_sliceAt_slice w 31 _ _ _ _ (by kernel_rfl)]; exact sliceWin w g n cap k h

end Go.Proofs.Ytefhjjjjbkkedaa

/- Contract of the reference's Hex. -/
namespace Go.Proofs.Ytefhjjjjbkkedaa
open Go.RowKit

abbrev tabr : ByteArray := { data := #[48, 49, 50, 51, 52, 53, 54, 55, 56, 57, 97, 98, 99, 100, 101, 102] }
theorem index_tabr (x : Nat) (h : x < 16) (w : World) : (Instr.index 9 (.string tabr) (.int .u8 (x : Int))).run Try.prog w = .ok (.int .u8 ((W1.hexd x).toNat : Int)) w := by
  have h16 : x = 0 ∨ x = 1 ∨ x = 2 ∨ x = 3 ∨ x = 4 ∨ x = 5 ∨ x = 6 ∨ x = 7 ∨ x = 8 ∨ x = 9 ∨ x = 10 ∨ x = 11 ∨ x = 12 ∨ x = 13 ∨ x = 14 ∨ x = 15 := by omega
  rcases h16 with rfl | rfl | rfl | rfl | rfl | rfl | rfl | rfl | rfl | rfl | rfl | rfl | rfl | rfl | rfl | rfl <;> (show _ = _; kernel_rfl)

end Go.Proofs.Ytefhjjjjbkkedaa

/- Contract of wire's Unhex. -/
namespace Go.Proofs.Ytefhjjjjbkkedaa
open Go.RowKit


theorem FB.form {base : Nat} {w : World} {v : Value} {l : List UInt8} (h : FB base w v l) : ∃ p cap, v = .slice p l.length cap := by
  rcases h.2 with ⟨h1, h2⟩ | ⟨g, cap, cur, h1, _⟩
  · exact ⟨none, 0, by rw [h1, h2]⟩
  · exact ⟨_, cap, h1⟩

theorem getb (s : ByteArray) (i : Nat) (h : i < s.size) (h' : i < s.data.toList.length) : s.data.toList[i]'h' = s[i]'h := by rw [Array.getElem_toList]; rfl

theorem or_digits (x y : Nat) (hx : x < 16) (hy : y < 16) : bits .or .u8 (bits .or .u8 0 (x : Int) * 16 % 256) (y : Int) = (((UInt8.ofNat (16 * x + y)).toNat : Nat) : Int) := by
  rw [show (0 : Int) = ((0 : Nat) : Int) from rfl, u8_or_nat 0 x (by decide) (by omega), Nat.zero_or, show ((x : Int) * 16 % 256) = ((16 * x : Nat) : Int) by omega, u8_or_nat _ _ (by omega) (by omega), nat_join 4 _ _ (by omega) (by omega)]
  simp; omega


end Go.Proofs.Ytefhjjjjbkkedaa

/- Contracts of slices.Clone at bytes, and of wire's piece. -/
namespace Go.Proofs.Ytefhjjjjbkkedaa
open Go.RowKit

/-- A slice that holds bytes, with cells at its address. -/
theorem HB.cells {w : World} {v : Value} {l : List UInt8} (h : HB w v l) : ∃ p cap, v = .slice p l.length cap ∧ (p = none → l = [] ∧ cap = 0) ∧ (∀ a, p = some a → ∀ (j : Nat) u, (l.map B8)[j]? = some u → w.cell? (a.add j) = some u) := by
  rcases h with ⟨rfl, p, cap, rfl, hpc⟩ | ⟨b, o, cap, rfl, _, _, hc⟩
  · exact ⟨p, cap, rfl, fun h => ⟨rfl, hpc h⟩, fun a _ j u hu => by simp at hu⟩
  · refine ⟨_, cap, rfl, fun h => by simp at h, fun a ha j u hu => ?_⟩
    simp only [Option.some.injEq] at ha
    subst ha
    have hj : j < l.length := by
      have := (List.getElem?_eq_some_iff.1 hu).1
      simpa using this
    have hadd : (⟨b, o, none⟩ : Addr).add j = ⟨b, o + j, none⟩ := by unfold Addr.add; split <;> simp_all
    rw [hadd, hc j hj]
    rw [List.getElem?_map, List.getElem?_eq_getElem hj] at hu
    simp only [Option.map_some, Option.some.injEq] at hu
    rw [← hu]
    simp [B8, List.getD, List.getElem?_eq_getElem hj]

theorem B8_one (l : List UInt8) : ∀ u ∈ l.map B8, u.oneCell' = true := by
  intro u hu
  obtain ⟨x, _, rfl⟩ := List.mem_map.1 hu
  rfl

theorem cell_alloc_keep {w : World} {a : Addr} {u : Value} (o : Obj) (h : w.cell? a = some u) : (w.alloc o).cell? a = some u := by
  rw [World.cell?_of_block (w := w) (Below.heap_alloc w o a.block (block_lt h))]; exact h



end Go.Proofs.Ytefhjjjjbkkedaa

/- Contracts of mac's keyBlock, Tag and its closure. -/
namespace Go.Proofs.Ytefhjjjjbkkedaa
open Go.RowKit

theorem shaL_len (l : List UInt8) : (shaL l).length = 32 := dig8_len _
/-- What stands for a key. -/
def keyL (key : List UInt8) : List UInt8 := if 64 < key.length then shaL key else key
theorem keyL_len (key : List UInt8) : (keyL key).length ≤ 64 := by
  unfold keyL; split
  · rw [shaL_len]; decide
  · omega
/-- A key's block. -/
def kblk (key : List UInt8) : List UInt8 := keyL key ++ List.replicate (64 - (keyL key).length) 0
theorem kblk_len (key : List UInt8) : (kblk key).length = 64 := by
  have := keyL_len key
  unfold kblk; simp; omega
/-- The tag. -/
def macL (key b : List UInt8) : List UInt8 := shaL ((kblk key).map (· ^^^ 92) ++ shaL ((kblk key).map (· ^^^ 54) ++ b))
theorem macL_len (key b : List UInt8) : (macL key b).length = 32 := shaL_len _

theorem sliceDig (w : World) (b : Nat) : (Instr.sliceAt 23 (.pointer (some ⟨b, 0, none⟩)) none none none).run Try.prog w = .ok (.slice (some ⟨b, 0, none⟩) 32 32) w := by
  have ha : Try.prog.arrayLen 23 = 32 := by kernel_rfl
  have hu : Try.prog.underlying 23 = some (.array (Try.prog.arrayLen 23) (Try.prog.elem 23)) := by kernel_rfl
  have he : Try.prog.elem 23 = 5 := by kernel_rfl
  rw [run_sliceAt_array_all w 23 _ hu, he, size_u8, ha]
  have hadd : (⟨b, 0, none⟩ : Addr).add (0 * 1) = ⟨b, 0, none⟩ := by unfold Addr.add; split <;> simp_all
  simp only [Result.andThen, slicedAt]
  rw [if_neg (by decide), hadd]

theorem splice_head {α : Type} (Z cs : List α) : splice Z 0 cs = cs ++ Z.drop cs.length := by
  unfold splice
  simp
theorem kblk_row (key : List UInt8) (cs : List Value) (hcs : cs = (keyL key).map B8) : splice (List.replicate 64 (Value.int .u8 0)) 0 cs = (kblk key).map B8 := by
  rw [splice_head, hcs]
  unfold kblk
  have : Value.int .u8 0 = B8 0 := rfl
  rw [this, List.map_append, List.map_replicate, List.drop_replicate, List.length_map]
/-- The row of a slice of bytes as the copy wants it. -/
theorem row_src {w : World} {b n : Nat} {l : List UInt8} (h : ∀ i, i < l.length → w.cell? ⟨b, n + i, none⟩ = some (.int .u8 ((l.getD i 0).toNat : Int))) : ∀ j u, (l.map B8)[j]? = some u → w.cell? ((⟨b, n, none⟩ : Addr).add j) = some u := fun j u hu => by
  have hj : j < l.length := by have := (List.getElem?_eq_some_iff.1 hu).1; simpa using this
  have hadd : (⟨b, n, none⟩ : Addr).add j = ⟨b, n + j, none⟩ := by unfold Addr.add; split <;> simp_all
  rw [hadd, h j hj]
  rw [List.getElem?_map, List.getElem?_eq_getElem hj] at hu
  simpa [B8, List.getD, List.getElem?_eq_getElem hj] using hu

set_option maxRecDepth 100000 in
/-- A copy to a row's head, where the walk stands at it. -/
theorem upon_copy {o : Oper} {a : Act} {K : Act → World → Prop} {Q : Exit → Act → World → Prop} {W : World} (g dLen dCap : Nat) (sp : Option Addr) (sLen sCap : Nat) (cur : List Value) (t : TypeId) (cs : List Value)
    (hg : W.heap[g]? = some (.cells cur.toArray t (0, 0))) (hn : cs.length = Nat.min sLen dLen) (hpos : 0 < cs.length → ∃ ad, sp = some ad ∧ ∀ j v, cs[j]? = some v → W.cell? (ad.add j) = some v) (hfit : cs.length ≤ cur.length) (h1 : ∀ v ∈ cs, v.oneCell' = true)
    (h : ∀ W', Hid (W'.heap[g]? = some (.cells (splice cur 0 cs).toArray t (0, 0))) → Below g W W' → Oper.upon Try.prog o a K Q (.ok (.value (goInt cs.length)) W')) :
    Oper.upon Try.prog o a K Q (((Builtin.copy_ #[31, 31] 3 #[.slice (some ⟨g, 0, none⟩) dLen dCap, .slice sp sLen sCap]).run Try.prog W).andThen fun a w' => .ok (.value a) w') := by
  by_cases h0 : cs.length = 0
  · obtain rfl : cs = [] := List.eq_nil_of_length_eq_zero h0
    rw [run_copy_none (P := Try.prog) W 31 31 3 5 _ _ dLen dCap sLen sCap Try.underlying31 (by kernel_rfl) (by simpa using hn.symm)]
    exact h W (show _ = _ by simpa [splice] using hg) (Below.refl _ _)
  · obtain ⟨ad, rfl, hsrc⟩ := hpos (by omega)
    rw [run_copy_row (P := Try.prog) W 31 31 3 5 g 0 dLen dCap ad sLen sCap cur.toArray t cs Try.underlying31 (by kernel_rfl) hg hn hsrc (by simpa using hfit) h1]
    exact h _ (show _ = _ by simpa [splice] using setRow_heap W g _ _ t _ hg) (below_setRow (Below.refl _ _) (Nat.le_refl _) _)


set_option maxHeartbeats 2000000 in
set_option maxRecDepth 100000 in
theorem keyBlock_any (v : Value) (key : List UInt8) (w : World) (hr : key.length ≤ 4294967296) (h : HB w v key) :
    Calls Try.prog 52 #[v] w fun e w' => e = .returned (.agg ((kblk key).map B8).toArray) ∧ Below w.heap.size w w' := by
  have hkz : ((kblk key).map B8).toArray.size = 64 := by simp [kblk_len]
  have HIK : Hid ((Try.prog.info? 101).map (·.size) = some ((kblk key).map B8).toArray.size) := by show _ = _; rw [hkz]; kernel_rfl
  have HZK : Hid ((64 : Nat) = ((kblk key).map B8).toArray.size) := hkz.symm
  have HK1 : Hid _ := B8_onea (kblk key)
  have hsB := fun W => sliceBlk W (w.heap.size + 1)
  clear hkz
  by_cases hlen : 64 < key.length
  · have hs := fun W hW => shaSum_any v key W hr hW
    obtain ⟨CS, hCS⟩ : ∃ CS, CS = (keyL key).map B8 := ⟨_, rfl⟩
    have hCS' : (shaL key).map B8 = CS := by rw [hCS]; unfold keyL; rw [if_pos hlen]
    rw [hCS'] at hs
    have hl32 : CS.length = 32 := by rw [← hCS']; simp [shaL_len]
    have h1c : ∀ u ∈ CS, u.oneCell' = true := by rw [hCS]; exact B8_one _
    have hlt : (64 : Int) < (key.length : Int) := by omega
    have HV : Hid _ := h
    obtain ⟨pv, capv, rfl, _⟩ := h.cells
    have HCS : Hid _ := hCS
    have HL : Hid _ := hl32
    have H1C : Hid _ := h1c
    have HID : Hid ((Try.prog.info? 23).map (·.size) = some CS.toArray.size) := by show _ = _; rw [List.size_toArray, hl32]; kernel_rfl
    have HS32 : Hid ((32 : Nat) = CS.toArray.size) := by show _ = _; rw [List.size_toArray, hl32]
    have HD1 : Hid (CS.toArray.all (·.oneCell') = true) := by show _ = _; rw [hCS]; exact B8_onea _
    clear hCS hCS' hl32 h1c h
    go_enter Try.func52, Try.ntmps52
    go_wp2_with fail
    refine (hs _ (HB.alloc (HB.alloc HV.out _) _)).mono ?_
    rintro e w1 ⟨rfl, hb1⟩
    have hs1 : w.heap.size + 2 ≤ w1.heap.size := by have := hb1.size; simp at this; omega
    have G0 : Hid _ := below_blk hb1 (i := w.heap.size) (by simp; omega) (alloc2_first _ _ _)
    have G1 : Hid _ := below_blk hb1 (i := w.heap.size + 1) (by simp) (heap_alloc2_new _ _ _)
    have hbw : Below w.heap.size w w1 := (((Below.refl _ _).alloc (Nat.le_refl _) _).alloc (by simp) _).trans (hb1.mono (by simp; omega))
    have hsD := fun W => sliceDig W w1.heap.size
    clear hb1 hs
    go_wp2_with (refine wpList_store_row rfl 23 _ _ rfl w1.heap.size _ rfl rfl 23 _ (heap_alloc_new _ _) HID.out HS32.out HD1.out ?_)
    refine upon_copy (w.heap.size + 1) 64 64 (some ⟨w1.heap.size, 0, none⟩) 32 32 (List.replicate 64 (.int .u8 0)) 101 CS ?_ (by rw [HL.out]; rfl) (fun _ => ⟨_, rfl, ?_⟩) (by rw [HL.out, List.length_replicate]; decide) H1C.out ?_
    · rw [setRow_other _ _ _ _ (by omega), Below.heap_alloc _ _ _ (by omega)]; exact G1.out
    · intro j u hu
      rw [Addr.add_mid, cell_of_row _ _ _ _ _ _ (setRow_heap _ _ _ _ _ _ (heap_alloc_new _ _))]; simpa using hu
    intro w3 HG3 hb3
    have HR3 : Hid (w3.heap[w.heap.size]? = some (.cells (List.replicate 64 (Value.int .u8 0)).toArray 101 (0, 0))) := by
      show _ = _
      rw [hb3.block _ (by omega), setRow_other _ _ _ _ (by omega), Below.heap_alloc _ _ _ (by omega)]; exact G0.out
    have hbw3 : Below w.heap.size w w3 := (below_setRow (hbw.alloc (by omega) _) (by omega) _).trans (hb3.mono (by omega))
    clear hbw hb3
    have hg3 := HG3.out
    rw [kblk_row key CS HCS.out] at hg3
    have HG4 : Hid _ := hg3
    clear hg3 HG3
    go_wp2_with (first
      | (refine wpList_load_row rfl 101 _ rfl (w.heap.size + 1) rfl 101 _ (0, 0) _ HG4.out Try.underlying101 rfl HIK.out ?_)
      | (refine wpList_store_row rfl 101 _ _ rfl w.heap.size _ rfl rfl 101 _ HR3.out HIK.out HZK.out HK1.out ?_))
    refine bodyPost_ret (v := .agg ((kblk key).map B8).toArray) ?_ rfl ⟨rfl, below_setRow hbw3 (Nat.le_refl _) _⟩
    exact results_cell_row Try.results52 _ _ w.heap.size 101 _ (0, 0) _ rfl (setRow_heap _ _ _ _ _ _ HR3.out) Try.underlying101 rfl HIK.out
  · obtain ⟨CS, hCS⟩ : ∃ CS, CS = (keyL key).map B8 := ⟨_, rfl⟩
    have hCS' : key.map B8 = CS := by rw [hCS]; unfold keyL; rw [if_neg hlen]
    have hll : CS.length = key.length := by rw [← hCS']; simp
    have h1c : ∀ u ∈ CS, u.oneCell' = true := by rw [hCS]; exact B8_one _
    have hlt : ¬ (64 : Int) < (key.length : Int) := by omega
    obtain ⟨pv, capv, rfl, hpn, hpc⟩ := h.cells
    have hpos : 0 < CS.length → ∃ ad, pv = some ad ∧ ∀ j u, CS[j]? = some u → w.cell? (ad.add j) = some u := fun hp => by
      cases pv with
      | none => obtain ⟨rfl, _⟩ := hpn rfl; rw [hll] at hp; simp at hp
      | some ad => exact ⟨ad, rfl, by rw [← hCS']; exact hpc ad rfl⟩
    have HP : Hid _ := hpos
    have HCS : Hid _ := hCS
    have HL : Hid _ := hll
    have H1C : Hid _ := h1c
    clear hCS hCS' hll h1c h hpn hpc hpos
    go_enter Try.func52, Try.ntmps52
    go_wp2_with fail
    refine upon_copy (w.heap.size + 1) 64 64 pv key.length capv (List.replicate 64 (.int .u8 0)) 101 CS (heap_alloc2_new _ _ _) (by rw [HL.out]; exact (Nat.min_eq_left (by omega)).symm) (fun hp => ⟨(HP.out hp).choose, (HP.out hp).choose_spec.1, fun j u hu => cell_alloc_keep _ (cell_alloc_keep _ ((HP.out hp).choose_spec.2 j u hu))⟩) (by rw [HL.out, List.length_replicate]; omega) H1C.out ?_
    intro w3 HG3 hb3
    have HR3 : Hid (w3.heap[w.heap.size]? = some (.cells (List.replicate 64 (Value.int .u8 0)).toArray 101 (0, 0))) := by
      show _ = _
      rw [hb3.block _ (by omega)]; exact alloc2_first _ _ _
    have hbw3 : Below w.heap.size w w3 := (((Below.refl _ _).alloc (Nat.le_refl _) _).alloc (by simp) _).trans (hb3.mono (by omega))
    clear hb3
    have hg3 := HG3.out
    rw [kblk_row key CS HCS.out] at hg3
    have HG4 : Hid _ := hg3
    clear hg3 HG3
    go_wp2_with (first
      | (refine wpList_load_row rfl 101 _ rfl (w.heap.size + 1) rfl 101 _ (0, 0) _ HG4.out Try.underlying101 rfl HIK.out ?_)
      | (refine wpList_store_row rfl 101 _ _ rfl w.heap.size _ rfl rfl 101 _ HR3.out HIK.out HZK.out HK1.out ?_))
    refine bodyPost_ret (v := .agg ((kblk key).map B8).toArray) ?_ rfl ⟨rfl, below_setRow hbw3 (Nat.le_refl _) _⟩
    exact results_cell_row Try.results52 _ _ w.heap.size 101 _ (0, 0) _ rfl (setRow_heap _ _ _ _ _ _ HR3.out) Try.underlying101 rfl HIK.out

end Go.Proofs.Ytefhjjjjbkkedaa

/- Contracts of mac's Tag and its closure. -/
namespace Go.Proofs.Ytefhjjjjbkkedaa
open Go.RowKit

theorem HB.ofRow {W : World} {b : Nat} {l : List UInt8} {t : TypeId} {fr : Nat × Nat} (k : Nat) (hk : k = l.length) (hl : l.length ≤ 1099511627776) (h : W.heap[b]? = some (.cells (l.map B8).toArray t fr)) : HB W (.slice (some ⟨b, 0, none⟩) k k) l := by
  subst hk
  refine .inr ⟨_, 0, _, rfl, Nat.le_refl _, by unfold maxLen; omega, fun i hi => ?_⟩
  rw [Nat.zero_add, cell_of_row _ _ i _ _ _ h]
  simp [B8, List.getD, List.getElem?_eq_getElem hi]
/-- A row of which the first k bytes are mixed. -/
def mixP (kb : List UInt8) (p : UInt8) (k : Nat) : List UInt8 := (kb.map (· ^^^ p)).take k ++ kb.drop k
theorem mixP_zero (kb : List UInt8) (p : UInt8) : mixP kb p 0 = kb := by unfold mixP; simp
theorem mixP_all (kb : List UInt8) (p : UInt8) (n : Nat) (h : kb.length = n) : mixP kb p n = kb.map (· ^^^ p) := by unfold mixP; subst h; rw [List.take_of_length_le (by simp), List.drop_length, List.append_nil]
theorem mixP_len (kb : List UInt8) (p : UInt8) (k : Nat) (h : k ≤ kb.length) : (mixP kb p k).length = kb.length := by unfold mixP; simp; omega
theorem mixP_get (kb : List UInt8) (p : UInt8) (k : Nat) (h : k < kb.length) : ((mixP kb p k).map B8).toArray[k]? = some (.int .u8 ((kb.getD k 0).toNat : Int)) := by
  unfold mixP
  simp only [List.getElem?_toArray, List.getElem?_map]
  rw [List.getElem?_append_right (by simp; omega)]
  simp [Nat.min_eq_left (Nat.le_of_lt h), B8, List.getD, List.getElem?_eq_getElem h]
theorem mixP_set (kb : List UInt8) (p : UInt8) (k : Nat) (h : k < kb.length) : ((mixP kb p k).map B8).toArray.setIfInBounds k (B8 (kb.getD k 0 ^^^ p)) = ((mixP kb p (k + 1)).map B8).toArray := by
  have e : (mixP kb p k).set k (kb.getD k 0 ^^^ p) = mixP kb p (k + 1) := by
    unfold mixP
    rw [List.set_append_right _ _ (by simp; omega)]
    have h0 : k - ((kb.map (· ^^^ p)).take k).length = 0 := by simp; omega
    have hg : kb.getD k 0 = kb[k] := by simp [List.getD, List.getElem?_eq_getElem h]
    rw [h0, hg, List.drop_eq_getElem_cons h, List.set_cons_zero, List.take_succ_eq_append_getElem (by simpa using h), List.getElem_map, List.append_assoc, List.singleton_append]
  rw [List.setIfInBounds_toArray, ← List.map_set, e]
theorem xor_u8 (x p : UInt8) : bits .xor .u8 (x.toNat : Int) (p.toNat : Int) = (((x ^^^ p).toNat : Nat) : Int) := by
  rw [u8_xor_nat _ _ (by have := x.toNat_lt; omega) (by have := p.toNat_lt; omega)]
  simp

set_option maxHeartbeats 4000000 in
set_option maxRecDepth 100000 in
theorem round_any (p : UInt8) (pd : Int) (hpd : pd = (p.toNat : Int)) (v : Value) (l : List UInt8) (c : Nat) (kb : List UInt8) (w : World) (hk : kb.length = 64) (hr : l.length ≤ 4294967000) (hc : w.heap[c]? = some (.cells (kb.map B8).toArray 101 (0, 0))) (h : HB w v l) :
    Calls Try.prog 53 #[.int .u8 pd, v, .pointer (some ⟨c, 0, none⟩)] w fun e w' => e = .returned (.agg ((shaL (kb.map (· ^^^ p) ++ l)).map B8).toArray) ∧ Below w.heap.size w w' := by
  have hcl : c < w.heap.size := (Array.getElem?_eq_some_iff.1 hc).1
  obtain ⟨KA, hKA⟩ : ∃ KA, KA = (kb.map B8).toArray := ⟨_, rfl⟩
  rw [← hKA] at hc
  have hks : KA.size = 64 := by rw [hKA]; simp [hk]
  have HIK : Hid ((Try.prog.info? 101).map (·.size) = some KA.size) := by show _ = _; rw [hks]; kernel_rfl
  have HK1 : Hid (KA.all (·.oneCell') = true) := by show _ = _; rw [hKA]; exact B8_onea _
  have HKS : Hid ((64 : Nat) = KA.size) := hks.symm
  have HC : Hid _ := hc
  have HKA : Hid (KA = ((mixP kb p 0).map B8).toArray) := by show _ = _; rw [mixP_zero]; exact hKA
  have hrs : ((shaL (kb.map (· ^^^ p) ++ l)).map B8).toArray.size = 32 := by simp [shaL_len]
  obtain ⟨RS, hRS⟩ : ∃ RS, RS = ((shaL (kb.map (· ^^^ p) ++ l)).map B8).toArray := ⟨_, rfl⟩
  have hsum := fun v W hW => shaSum_any v (kb.map (· ^^^ p) ++ l) W (by simp; omega) hW
  rw [← hRS] at hrs hsum ⊢
  have HRI : Hid ((Try.prog.info? 23).map (·.size) = some RS.size) := by show _ = _; rw [hrs]; kernel_rfl
  have HR1 : Hid (RS.all (·.oneCell') = true) := by show _ = _; rw [hRS]; exact B8_onea _
  have HRS : Hid ((32 : Nat) = RS.size) := hrs.symm
  have HV : Hid _ := h
  obtain ⟨pv, capv, rfl, _⟩ := h.cells
  have hx := fun x : UInt8 => xor_u8 x p
  rw [← hpd] at hx
  have hsB := fun W => sliceBlk W (w.heap.size + 1)
  clear hKA hks hc hRS hrs h hpd
  go_enter Try.func53, Try.ntmps53
  go_wp2_with (first
    | (refine wpList_load_row rfl 101 _ rfl c rfl 101 KA (0, 0) _ (by rw [Below.heap_alloc _ _ _ hcl]; exact HC.out) Try.underlying101 rfl HIK.out ?_)
    | (refine wpList_store_row rfl 101 _ _ rfl (w.heap.size + 1) KA rfl rfl 101 _ (heap_alloc2_new _ _ _) HIK.out HKS.out HK1.out ?_))
  go_loopw [9] (fun i wr => ∃ k : Nat, k ≤ 64 ∧ i = .int .i64 k ∧ wr.heap[w.heap.size + 1]? = some (.cells ((mixP kb p k).map B8).toArray 101 (0, 0)) ∧ wr.heap[w.heap.size]? = some (.cells (List.replicate 32 (Value.int .u8 0)).toArray 23 (0, 0)) ∧ Below w.heap.size w wr) (fun i _ => 64 - (intOf i).toNat)
  case atStart =>
    refine ⟨0, by omega, rfl, ?_, ?_, below_setRow (((Below.refl _ _).alloc (Nat.le_refl _) _).alloc (by simp) _) (by omega) _⟩
    · rw [← HKA.out]; exact setRow_heap _ _ _ _ _ _ (heap_alloc2_new _ _ _)
    · rw [setRow_other _ _ _ _ (by omega)]; exact alloc2_first _ _ _
  case round =>
    obtain ⟨k, hk64, rfl, hT, hR, hbel⟩ := hrel
    have HT : Hid _ := hT
    have HR : Hid _ := hR
    have hsz : w.heap.size + 1 < wr.heap.size := (Array.getElem?_eq_some_iff.1 hT).1
    by_cases hlt : k < 64
    · have hcu := (cell_of_row _ _ k _ _ _ hT).trans (mixP_get kb p k (by omega))
      have hfu := frozen_of_row _ _ k _ _ hT
      have HSET : Hid _ := mixP_set kb p k (by omega)
      have hxx := hx (kb.getD k 0)
      have HX : Hid (B8 (kb.getD k 0 ^^^ p) = .int .u8 (((kb.getD k 0 ^^^ p).toNat : Nat) : Int)) := rfl
      generalize kb.getD k 0 ^^^ p = y at *
      generalize kb.getD k 0 = x at *
      clear hT hR hx
      go_wp2
      go_roundw
      case rel =>
        refine ⟨k + 1, by omega, by go_num, ?_, ?_, hbel.setCell (p := ⟨w.heap.size + 1, k, none⟩) (by simp) _⟩
        · rw [← HSET.out, HX.out]; exact heap_setCell_same _ (w.heap.size + 1) k _ 101 _ HT.out
        · rw [heap_setCell_other _ _ _ _ (by simp)]; exact HR.out
      case measure => simp [intOf]; omega
    · have hk' : k = 64 := by omega
      subst hk'
      rw [mixP_all kb p 64 hk] at hT
      have HM : Hid _ := HB.ofRow 64 (by simp [hk]) (by simp [hk]) hT
      have HVr : Hid _ := HB.below HV.out hbel
      have hfl : [kb.map (· ^^^ p), l].flatten.length ≤ 1099511627776 := by simp [hk]; omega
      have HFE : Hid (kb.map (· ^^^ p) ++ l = [kb.map (· ^^^ p), l].flatten) := by show _ = _; simp
      have HFL : Hid _ := hfl
      clear hT hR HT hfl hx
      go_wp2_with fail
      refine (join_any _ _ [kb.map (· ^^^ p), l] _ (by simp) HFL.out (two_cells _ _ _ _ _ _ rfl (HB.alloc HM.out _) (HB.alloc HVr.out _))).mono ?_
      rintro e wj ⟨vj, rfl, hfJ, hbJ⟩
      have HJ : Hid (HB wj vj (kb.map (· ^^^ p) ++ l)) := by rw [HFE.out]; exact hfJ.hb
      have hsj := hbJ.size
      have HRj : Hid _ := (hbJ.block w.heap.size (by simp; omega)).trans ((Below.heap_alloc _ _ _ (by omega)).trans HR.out)
      have hbwj : Below w.heap.size w wj := (hbel.alloc (by omega) _).trans (hbJ.mono (by simp; omega))
      clear hfJ hbJ
      go_wp2_with fail
      refine (hsum _ _ HJ.out).mono ?_
      rintro e w5 ⟨rfl, hb5⟩
      have HR5 : Hid _ := (hb5.block w.heap.size (by simp at hsj; omega)).trans HRj.out
      have hbw5 : Below w.heap.size w w5 := hbwj.trans (hb5.mono hbwj.size)
      clear hb5
      go_wp2_with (refine wpList_store_row rfl 23 _ _ rfl w.heap.size RS rfl rfl 23 _ HR5.out HRI.out HRS.out HR1.out ?_)
      refine bodyPost_ret (v := .agg RS) ?_ rfl ⟨rfl, below_setRow hbw5 (Nat.le_refl _) _⟩
      exact results_cell_row Try.results53 _ _ w.heap.size 23 _ (0, 0) _ rfl (setRow_heap _ _ _ _ _ _ HR5.out) Try.underlying23 rfl HRI.out

set_option maxHeartbeats 4000000 in
set_option maxRecDepth 100000 in
theorem tag_any (kv bv : Value) (key b : List UInt8) (w : World) (hrk : key.length ≤ 4294967000) (hrb : b.length ≤ 4294967000) (hk : HB w kv key) (hb : HB w bv b) :
    Calls Try.prog 42 #[kv, bv] w fun e w' => e = .returned (.agg ((macL key b).map B8).toArray) ∧ Below w.heap.size w w' := by
  have hkb := fun W hW => keyBlock_any kv key W (by omega) hW
  have hkl := kblk_len key
  have hr1 := fun v l c W hl hc hv => round_any 54 54 rfl v l c (kblk key) W hkl hl hc hv
  have hr2 := fun v l c W hl hc hv => round_any 92 92 rfl v l c (kblk key) W hkl hl hc hv
  obtain ⟨RS, hRS⟩ : ∃ RS, RS = ((macL key b).map B8).toArray := ⟨_, rfl⟩
  have hmac : macL key b = shaL ((kblk key).map (· ^^^ 92) ++ shaL ((kblk key).map (· ^^^ 54) ++ b)) := rfl
  obtain ⟨D1, hD1⟩ : ∃ D1, D1 = shaL ((kblk key).map (· ^^^ 54) ++ b) := ⟨_, rfl⟩
  rw [← hD1] at hmac
  have h1 := fun c W hc hv => hr1 bv b c W (by omega) hc hv
  have hd32 : D1.length = 32 := by rw [hD1]; exact shaL_len _
  have h2 := fun v c W hc hv => hr2 v D1 c W (by omega) hc hv
  rw [← hD1] at h1
  rw [← hmac, ← hRS] at h2
  rw [← hRS]
  have hrs : RS.size = 32 := by rw [hRS]; simp [macL_len]
  have HRI : Hid ((Try.prog.info? 23).map (·.size) = some RS.size) := by show _ = _; rw [hrs]; kernel_rfl
  have HR1 : Hid (RS.all (·.oneCell') = true) := by show _ = _; rw [hRS]; exact B8_onea _
  have HRS : Hid ((32 : Nat) = RS.size) := hrs.symm
  obtain ⟨DA, hDA⟩ : ∃ DA, DA = (D1.map B8).toArray := ⟨_, rfl⟩
  rw [← hDA] at h1
  have hds : DA.size = 32 := by rw [hDA]; simp [hd32]
  have HDI : Hid ((Try.prog.info? 23).map (·.size) = some DA.size) := by show _ = _; rw [hds]; kernel_rfl
  have HD1 : Hid (DA.all (·.oneCell') = true) := by show _ = _; rw [hDA]; exact B8_onea _
  have HDS : Hid ((32 : Nat) = DA.size) := hds.symm
  have HDA : Hid _ := hDA
  have HD32 : Hid _ := hd32
  obtain ⟨KA, hKA⟩ : ∃ KA, KA = ((kblk key).map B8).toArray := ⟨_, rfl⟩
  rw [← hKA] at hkb h1 h2
  have hks : KA.size = 64 := by rw [hKA]; simp [hkl]
  have HIK : Hid ((Try.prog.info? 101).map (·.size) = some KA.size) := by show _ = _; rw [hks]; kernel_rfl
  have HK1 : Hid (KA.all (·.oneCell') = true) := by show _ = _; rw [hKA]; exact B8_onea _
  have HKS : Hid ((64 : Nat) = KA.size) := hks.symm
  have HKV : Hid _ := hk
  have HBV : Hid _ := hb
  obtain ⟨pk, capk, rfl, _⟩ := hk.cells
  obtain ⟨pb, capb, rfl, _⟩ := hb.cells
  clear hr1 hr2 hmac hD1 hRS hrs hDA hds hKA hks hk hb hd32 hkl
  go_enter Try.func42, Try.ntmps42
  go_wp2_with fail
  refine (hkb _ (HB.alloc HKV.out _)).mono ?_
  rintro e w1 ⟨rfl, hb1⟩
  have hs1 : w.heap.size + 1 ≤ w1.heap.size := by have := hb1.size; simpa using this
  have G1 : Hid _ := below_blk hb1 (i := w.heap.size) (by simp) (heap_alloc_new _ _)
  have hbw1 : Below w.heap.size w w1 := ((Below.refl _ _).alloc (Nat.le_refl _) _).trans (hb1.mono (by simp))
  have HB1 : Hid _ := HB.below HBV.out hbw1
  clear hb1 hkb
  go_wp2_with (refine wpList_store_row rfl 101 _ _ rfl w1.heap.size KA rfl rfl 101 _ (heap_alloc_new _ _) HIK.out HKS.out HK1.out ?_)
  refine (h1 w1.heap.size _ (setRow_heap _ _ _ _ _ _ (heap_alloc_new _ _)) ?_).mono ?_
  · exact HB.below HB1.out (below_setRow ((Below.refl _ _).alloc (Nat.le_refl _) _) (Nat.le_refl _) _)
  rintro e w2 ⟨rfl, hb2⟩
  have hs2 : w1.heap.size + 1 ≤ w2.heap.size := by have := hb2.size; simpa using this
  have GC : Hid _ := (hb2.block w1.heap.size (by simp)).trans (setRow_heap _ _ _ _ _ _ (heap_alloc_new _ _))
  have G2 : Hid _ := (hb2.block w.heap.size (by simp; omega)).trans ((setRow_other _ _ _ _ (by omega)).trans ((Below.heap_alloc _ _ _ (by omega)).trans G1.out))
  have hbw2 : Below w.heap.size w w2 := (below_setRow (hbw1.alloc (by omega) _) (by omega) _).trans (hb2.mono (by simp; omega))
  have hsD := fun W => sliceDig W w2.heap.size
  clear hb2 h1 hbw1 HB1 G1
  go_wp2_with (refine wpList_store_row rfl 23 _ _ rfl w2.heap.size DA rfl rfl 23 _ (heap_alloc_new _ _) HDI.out HDS.out HD1.out ?_)
  refine (h2 _ w1.heap.size _ ?_ ?_).mono ?_
  · rw [setRow_other _ _ _ _ (by omega), Below.heap_alloc _ _ _ (by omega)]; exact GC.out
  · exact HB.ofRow 32 HD32.out.symm (by rw [HD32.out]; decide) (by rw [← HDA.out]; exact setRow_heap _ _ _ _ _ _ (heap_alloc_new _ _))
  rintro e w3 ⟨rfl, hb3⟩
  have hs3 : w2.heap.size + 1 ≤ w3.heap.size := by have := hb3.size; simpa using this
  have G3 : Hid _ := (hb3.block w.heap.size (by simp; omega)).trans ((setRow_other _ _ _ _ (by omega)).trans ((Below.heap_alloc _ _ _ (by omega)).trans G2.out))
  have hbw3 : Below w.heap.size w w3 := (below_setRow (hbw2.alloc (by omega) _) (by omega) _).trans (hb3.mono (by simp; omega))
  clear hb3 h2 hbw2 G2
  go_wp2_with (refine wpList_store_row rfl 23 _ _ rfl w.heap.size RS rfl rfl 23 _ G3.out HRI.out HRS.out HR1.out ?_)
  refine bodyPost_ret (v := .agg RS) ?_ rfl ⟨rfl, below_setRow hbw3 (Nat.le_refl _) _⟩
  exact results_cell_row Try.results42 _ _ w.heap.size 23 _ (0, 0) _ rfl (setRow_heap _ _ _ _ _ _ G3.out) Try.underlying23 rfl HRI.out

end Go.Proofs.Ytefhjjjjbkkedaa
