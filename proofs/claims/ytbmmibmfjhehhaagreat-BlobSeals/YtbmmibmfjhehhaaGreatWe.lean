/- Several texts in one. -/
import Derived.Test.YtbmmibmfjhehhaaGreatWv
import Derived.Test.YtbmmibmfjhehhaaGreatS2
import Derived.Test.YtbmmibmfjhehhaaGreatP3
import Derived.Deep.MidRow
import Derived.Laws.Cover3
import Derived.Stop.BytesEq
import Derived.WideKeyArr2
set_option linter.unusedVariables false
set_option linter.unusedSimpArgs false
/- Contract of sha's digest. -/
namespace Go.Proofs.YtbmmibmfjhehhaaGreat
open Go.RowKit

def wb (h : List UInt32) (i : Nat) : UInt8 := UInt8.ofNat ((h.getD (i / 4) 0).toNat / 256 ^ (3 - i % 4) % 256)
def dig8 (h : List UInt32) : List UInt8 := (List.range 32).map (wb h)
theorem dig8_len (h : List UInt32) : (dig8 h).length = 32 := by simp [dig8]
theorem dig8_get (h : List UInt32) (i : Nat) (hi : i < 32) : (dig8 h).getD i 0 = wb h i := by
  simp [dig8, List.getD, List.getElem?_map, List.getElem?_range hi]
def bpart (n : Nat) (T : List UInt8) (k : Nat) : List UInt8 := T.take k ++ List.replicate (n - k) 0
theorem bpart_all (n : Nat) (T : List UInt8) (hT : T.length = n) : bpart n T n = T := by unfold bpart; simp [← hT]
theorem bpart_len (n : Nat) (T : List UInt8) (k : Nat) (hT : T.length = n) (h : k ≤ n) : (bpart n T k).length = n := by unfold bpart; simp; omega
theorem bpart_set (n : Nat) (T : List UInt8) (k : Nat) (hT : T.length = n) (h : k < n) : ((bpart n T k).map B8).toArray.setIfInBounds k (B8 (T.getD k 0)) = ((bpart n T (k + 1)).map B8).toArray := by
  have hk : k < T.length := by omega
  have e : (bpart n T k).set k (T.getD k 0) = bpart n T (k + 1) := by
    unfold bpart
    rw [List.set_append_right _ _ (by simp; omega), List.take_succ_eq_append_getElem hk]
    simp only [List.length_take, Nat.min_eq_left (show k ≤ T.length by omega), Nat.sub_self]
    rw [show n - k = (n - (k + 1)) + 1 by omega, List.replicate_succ, List.set_cons_zero]
    rw [show T.getD k 0 = T[k] from by simp [List.getD, List.getElem?_eq_getElem hk]]
    simp only [List.append_assoc, List.singleton_append]
  rw [List.setIfInBounds_toArray, ← List.map_set, e]
theorem bpart_cell (n : Nat) (T : List UInt8) (k : Nat) (hT : T.length = n) (h : k < n) : ∃ u, ((bpart n T k).map B8).toArray[k]? = some u := by
  have hl : k < ((bpart n T k).map B8).toArray.size := by simp [bpart_len n T k hT (by omega)]; exact h
  exact ⟨_, Array.getElem?_eq_getElem hl⟩
theorem B8_onea (l : List UInt8) : (l.map B8).toArray.all (·.oneCell') = true := by
  rw [Array.all_eq_true_iff_forall_mem]
  intro v hv
  simp only [List.mem_toArray, List.mem_map] at hv
  obtain ⟨x, _, rfl⟩ := hv
  rfl
theorem wb_shr (h : List UInt32) (i c : Nat) (hc : c = 3 - i % 4) : IntKind.u8.wrap (U (h.getD (i / 4) 0) / 2 ^ (8 * c)) = ((wb h i).toNat : Int) := by
  unfold wb U
  rw [← hc, IntKind.wrap_u8]
  have e : ((2 : Int) ^ (8 * c)) = ((256 ^ c : Nat) : Int) := by rw [← W1.pow256]; simp
  rw [e]
  have : (UInt8.ofNat ((h.getD (i / 4) 0).toNat / 256 ^ c % 256)).toNat = (h.getD (i / 4) 0).toNat / 256 ^ c % 256 := by
    show _ % 256 = _; omega
  rw [this]
  simp

set_option maxHeartbeats 2000000 in
theorem digest_any (h : List UInt32) (w : World) (hl : h.length = 8) :
    Calls Tryz.prog 82 #[.agg (h.map W32).toArray] w fun e w' => e = .returned (.agg ((dig8 h).map B8).toArray) ∧ Below w.heap.size w w' := by
  obtain ⟨HA, hHA⟩ : ∃ HA, HA = (h.map W32).toArray := ⟨_, rfl⟩
  have hHc : ∀ i, i < 8 → HA[i]? = some (.int .u32 (U (h.getD i 0))) := fun i hi => by
    rw [hHA]
    have hl : i < h.length := by omega
    simp [W32, List.getD, List.getElem?_eq_getElem hl]
  rw [← hHA]
  have hDl := dig8_len h
  have hDg := dig8_get h
  generalize dig8 h = D at *
  have HDL : Hid _ := hDl
  have HDG : Hid _ := hDg
  have HHC : Hid _ := hHc
  clear hHA hDl hDg hHc
  go_enter Tryz.func82, Tryz.ntmps82
  go_wp2
  go_loopw [5] (fun i wr => ∃ k : Nat, k ≤ 32 ∧ i = .int .i64 k ∧ wr.heap[w.heap.size]? = some (.cells HA 102 (0, 0)) ∧ wr.heap[w.heap.size + 1]? = some (.cells ((bpart 32 D 0).map B8).toArray 23 (0, 0)) ∧ wr.heap[w.heap.size + 1 + 1]? = some (.cells ((bpart 32 D k).map B8).toArray 23 (0, 0)) ∧ w.heap.size + 3 ≤ wr.heap.size ∧ Below w.heap.size w wr) (fun i _ => 32 - (intOf i).toNat)
  case atStart =>
    refine ⟨0, by omega, rfl, ?_, ?_, ?_, by simp, (((Below.refl _ _).alloc (Nat.le_refl _) _).alloc (by simp) _).alloc (by simp; omega) _⟩
    · rw [Below.heap_alloc _ _ _ (by simp; omega), Below.heap_alloc _ _ _ (by simp)]; exact heap_alloc_new _ _
    · rw [Below.heap_alloc _ _ _ (by simp)]; exact heap_alloc2_new _ _ _
    · exact (by simp : (((w.alloc _).alloc _).heap.size = w.heap.size + 1 + 1)) ▸ heap_alloc_new _ _
  case round =>
    obtain ⟨k, hk, rfl, h0, h1, h2, hs, hbel⟩ := hrel
    have H0 : Hid _ := h0
    have H1 : Hid _ := h1
    have H2 : Hid _ := h2
    by_cases hlt : k < 32
    · have hset := bpart_set 32 D k HDL.out hlt
      obtain ⟨u, hu⟩ := bpart_cell 32 D k HDL.out hlt
      have hcu := cell_of_row _ _ k _ _ _ h2
      rw [hu] at hcu
      have hfu := frozen_of_row _ _ k _ _ h2
      have hcx := (cell_of_row _ _ (k / 4) _ _ _ h0).trans (HHC.out (k / 4) (by omega))
      have hdg := HDG.out k hlt
      rw [hdg] at hset
      obtain ⟨c, hc⟩ : ∃ c, c = 3 - k % 4 := ⟨_, rfl⟩
      have hc' : (3 : Int) - (k : Int) % 4 = (c : Int) := by omega
      have hc3 : c ≤ 3 := by omega
      have HWB : Hid _ := wb_shr h k c hc
      have HSET : Hid _ := hset
      generalize h.getD (k / 4) 0 = x at *
      clear hset hu h0 h1 h2 hdg hc
      go_wp2
      go_roundw
      case rel =>
        have hx : B8 (wb h k) = .int .u8 (U x / 2 ^ (8 * c) % 256) := by unfold B8; rw [← HWB.out, IntKind.wrap_u8]
        refine ⟨k + 1, by omega, by go_num, ?_, ?_, ?_, by simp; omega, hbel.setCell (p := ⟨w.heap.size + 1 + 1, k, none⟩) (by simp; omega) _⟩
        · rw [heap_setCell_other _ _ _ _ (by simp; omega)]; exact H0.out
        · rw [heap_setCell_other _ _ _ _ (by simp)]; exact H1.out
        · rw [← HSET.out, hx]; exact heap_setCell_same _ (w.heap.size + 1 + 1) k _ 23 _ H2.out
      case measure => simp [intOf]; omega
    · have hk' : k = 32 := by omega
      subst hk'
      have hT' := h2
      rw [bpart_all 32 D HDL.out] at hT'
      have hsc : (D.map B8).toArray.size = 32 := by simp [HDL.out]
      have hpz : ((bpart 32 D 0).map B8).toArray.size = 32 := by simp [bpart_len 32 D 0 HDL.out (by omega)]
      have hi25 : (Tryz.prog.info? 23).map (·.size) = some (D.map B8).toArray.size := by rw [hsc]; kernel_rfl
      have HT' : Hid _ := hT'
      have HI : Hid _ := hi25
      have HZ : Hid _ := hpz.trans hsc.symm
      have HW1 : Hid _ := B8_onea D
      clear h0 h1 h2 hT' hi25 hsc hpz
      go_wp2_with (first
        | (refine wpList_load_row rfl 23 _ rfl (w.heap.size + 1 + 1) rfl 23 _ (0, 0) _ HT'.out Tryz.underlying23 rfl HI.out ?_)
        | (refine wpList_store_row rfl 23 _ _ rfl (w.heap.size + 1) _ rfl rfl 23 _ H1.out HI.out HZ.out HW1.out ?_))
      refine bodyPost_ret (v := .agg (D.map B8).toArray) ?_ rfl ⟨rfl, below_setRow hbel (by omega) _⟩
      exact results_cell_row Tryz.results82 _ _ (w.heap.size + 1) 23 _ (0, 0) _ rfl (setRow_heap _ _ _ _ _ _ H1.out) Tryz.underlying23 rfl HI.out

end Go.Proofs.YtbmmibmfjhehhaaGreat

/- Contract of sha's pressAll: blocks pressed one behind the other. -/
namespace Go.Proofs.YtbmmibmfjhehhaaGreat
open Go.RowKit

theorem press_len (hs : List UInt32) (bs : List UInt8) (h8 : hs.length = 8) : (press hs bs K64).length = 8 := by
  unfold press
  have : ∀ k, (rnds K64 (sched bs 48) hs k).length = 8 := fun k => by
    cases k with
    | zero => exact h8
    | succ k => rfl
  simp [List.length_zipWith, this 64, h8]
def blk (l : List UInt8) (k : Nat) : List UInt8 := (l.drop (64 * k)).take 64
theorem blk_len (l : List UInt8) (k : Nat) (h : 64 * k + 64 ≤ l.length) : (blk l k).length = 64 := by unfold blk; simp; omega
theorem blk_get (l : List UInt8) (k j : Nat) (h : 64 * k + 64 ≤ l.length) (hj : j < 64) : (blk l k)[j]? = some (l.getD (64 * k + j) 0) := by
  unfold blk
  rw [List.getElem?_take_of_lt hj, List.getElem?_drop]
  simp [List.getD, List.getElem?_eq_getElem (show 64 * k + j < l.length by omega)]
def pAll (hs : List UInt32) (l : List UInt8) : Nat → List UInt32
  | 0 => hs
  | k + 1 => press (pAll hs l k) (blk l k) K64
theorem pAll_len (hs : List UInt32) (l : List UInt8) (k : Nat) (h8 : hs.length = 8) : (pAll hs l k).length = 8 := by
  induction k with
  | zero => exact h8
  | succ k ih => exact press_len _ _ ih
theorem shaPress_l (hs : List UInt32) (bs : List UInt8) (ks : List UInt32) (w : World) (h8 : hs.length = 8) (hb : bs.length = 64) (hkl : ks.length = 64) :
    Calls Tryz.prog 96 #[.agg (hs.map W32).toArray, .agg (bs.map B8).toArray, .agg (ks.map W32).toArray] w fun e w' => e = .returned (.agg ((press hs bs ks).map W32).toArray) ∧ Below w.heap.size w w' := by
  match hs, h8 with
  | [h0, h1, h2, h3, h4, h5, h6, h7], _ => exact shaPress_any h0 h1 h2 h3 h4 h5 h6 h7 bs ks w hb hkl
theorem rangeAt_below {w w' : World} {b o : Nat} {cs : List Value} (h : w.rangeAt b o cs) (hb : Below w.heap.size w w') : w'.rangeAt b o cs := fun j v hv => (hb.cell (block_lt (h j v hv))).trans (h j v hv)
theorem rangeAt_row {w : World} {b : Nat} {cs : List Value} {t : TypeId} {fr : Nat × Nat} (h : w.heap[b]? = some (.cells cs.toArray t fr)) : w.rangeAt b 0 cs := fun j v hv => by
  rw [Nat.zero_add, cell_of_row _ _ j _ _ _ h]; simpa using hv
theorem sliceFrom (w : World) (g n cap k : Nat) (h : 64 * k < n) (hc : n ≤ cap) (hm : cap ≤ maxLen) : (Instr.slice 64 (.slice (some ⟨g, 0, none⟩) n cap) (some (.int .i64 ((k : Int) * 64))) none none).run Tryz.prog w = .ok (.slice (some ⟨g, 64 * k, none⟩) (n - 64 * k) (cap - 64 * k)) w := by
  have h0 : (0 : Int) ≤ (k : Int) * 64 := by omega
  have hu : Tryz.prog.underlying 64 = some (.slice (Tryz.prog.elem 64)) := by kernel_rfl
  have hz : (sizeOf (Tryz.prog.elem 64)).run Tryz.prog w = .ok 1 w := by
    obtain ⟨i0, hi, hz0, hz1, hz2⟩ := info_parts Tryz.infoU8
    have he : Tryz.prog.elem 64 = 5 := by kernel_rfl
    rw [he]
    simp [sizeOf, typeInfo, hi, hz1]
  rw [run_slice_l w 64 _ _ _ hu .i64 _ h0 (by omega), hz]
  have ht : ((k : Int) * 64).toNat = 64 * k := by omega
  have hadd : (⟨g, 0, none⟩ : Addr).add (64 * k * 1) = ⟨g, 64 * k, none⟩ := by unfold Addr.add; split <;> simp_all
  simp only [Result.andThen, sliced, ht]
  rw [if_neg (by omega)]
  rw [Nat.mul_one] at hadd
  simp [hadd]

theorem rangeAt_setRow {w : World} {b o h : Nat} {cs : List Value} {ns : Array Value} (hr : w.rangeAt b o cs) (hne : b ≠ h) : (w.setRow h ns).rangeAt b o cs := fun j v hv => by
  rw [cell_setRow_other _ _ _ _ (by simpa using hne)]; exact hr j v hv
set_option maxHeartbeats 8000000 in
set_option maxRecDepth 100000 in
theorem pressAll_some (hs : List UInt32) (h8 : hs.length = 8) (g cap : Nat) (l : List UInt8) (w : World) (hl0 : 0 < l.length) (hl : l.length % 64 = 0) (hb : l.length ≤ 1099511627776) (hcap : l.length ≤ cap) (hcm : cap ≤ maxLen)
    (hc : ∀ i, i < l.length → w.cell? ⟨g, i, none⟩ = some (.int .u8 ((l.getD i 0).toNat : Int))) :
    Calls Tryz.prog 83 #[.agg (hs.map W32).toArray, .slice (some ⟨g, 0, none⟩) l.length cap] w fun e w' => e = .returned (.agg ((pAll hs l (l.length / 64)).map W32).toArray) ∧ Below w.heap.size w w' := by
  obtain ⟨N, hN⟩ : ∃ N, N = l.length / 64 := ⟨_, rfl⟩
  have hN1 : l.length = 64 * N := by omega
  have hN2 : ((l.length : Int)) / 64 = (N : Int) := by omega
  have hN3 : ((l.length : Int)).tdiv 64 = (N : Int) := by rw [Int.tdiv_eq_ediv_of_nonneg (by omega)]; exact hN2
  rw [← hN]
  obtain ⟨KC, hKC⟩ : ∃ KC, KC = K64.map W32 := ⟨_, rfl⟩
  have hKl : KC.length = 64 := by rw [hKC]; rfl
  have hK1 : KC.toArray.all (·.oneCell') = true := by rw [hKC]; exact W32_one _
  have hcon := fun W => shaConstants_any W
  have hprs := fun hs bs W h8 hb => shaPress_l hs bs K64 W h8 hb rfl
  rw [← hKC] at hcon hprs
  have hi31 : ∀ k, (Tryz.prog.info? 102).map (·.size) = some ((pAll hs l k).map W32).length := fun k => by rw [List.length_map, pAll_len _ _ _ h8]; kernel_rfl
  have hi63 : (Tryz.prog.info? 138).map (·.size) = some KC.length := by rw [hKl]; kernel_rfl
  have hrow : ∀ k, pAll hs l (k + 1) = press (pAll hs l k) (blk l k) K64 := fun _ => rfl
  have hp0 : pAll hs l 0 = hs := rfl
  have hp8 := fun k => pAll_len hs l k h8
  have hcbs : ∀ k, k < N → ∀ W, Below w.heap.size w W → W.rangeAt g (64 * k) ((blk l k).map B8) := fun k hk W hW j v hv => by
    have hlen := blk_len l k (by omega)
    have hj : j < 64 := by have := (List.getElem?_eq_some_iff.1 hv).1; simp [hlen] at this; exact this
    rw [List.getElem?_map, blk_get l k j (by omega) hj] at hv
    have hcc := hc (64 * k + j) (by omega)
    rw [hW.cell (block_lt hcc), hcc]
    simpa [B8] using hv
  have hgw : g < w.heap.size := block_lt (hc 0 hl0)
  have hble : ∀ k, k < N → (blk l k).length = 64 := fun k hk => blk_len l k (by omega)
  have hqq : ∀ k, pAll (pAll hs l 0) l k = pAll hs l k := fun _ => rfl
  have HQQ : Hid _ := hqq
  clear hqq
  have HKL : Hid _ := hKl
  have HK1 : Hid _ := hK1
  have HI31 : Hid _ := hi31
  have HI63 : Hid _ := hi63
  have HROW : Hid _ := hrow
  have HP8 : Hid _ := hp8
  have HCB : Hid _ := hcbs
  have HBL : Hid _ := hble
  rw [← hp0]
  generalize pAll hs l = PA at *
  generalize hHA : ((PA 0).map W32).toArray = HA
  have HHA : Hid _ := hHA
  have hlp : ¬ (l.length : Int) = 0 := by omega
  have HNN : Hid _ := hN1
  clear hN1 hl
  clear hN hKC hKl hK1 hi31 hi63 hrow hp0 hp8 hcbs hble hc hHA
  go_enter Tryz.func83, Tryz.ntmps83
  go_wp2_with fail
  refine (hcon _).mono ?_
  rintro e w1 ⟨rfl, hb1⟩
  have g0 := below_blk hb1 (i := w.heap.size) (by simp; omega) (alloc2_first _ _ _)
  have g1 := below_blk hb1 (i := w.heap.size + 1) (by simp) (heap_alloc2_new _ _ _)
  have hbw : Below w.heap.size w w1 := (((Below.refl _ _).alloc (Nat.le_refl _) _).alloc (by simp) _).trans (hb1.mono (by simp; omega))
  have hs1 : w.heap.size + 2 ≤ w1.heap.size := by have := hb1.size; simp at this; omega
  have G0 : Hid _ := g0
  have G1 : Hid _ := g1
  clear g0 g1 hb1 hcon
  go_wp2_with (refine wpList_store_row rfl 138 _ _ rfl w1.heap.size KC.toArray rfl rfl 138 _ (heap_at _ _ _ rfl) HI63.out (by simp [HKL.out]) HK1.out ?_)
  go_loopw [15] (fun i wr => ∃ k : Nat, k ≤ N ∧ i = .int .i64 k ∧ wr.heap[w.heap.size]? = some (.cells ((PA k).map W32).toArray 102 (0, 0)) ∧ wr.heap[w1.heap.size]? = some (.cells KC.toArray 138 (0, 0)) ∧ (∀ j, j ≠ w.heap.size → j < w1.heap.size → wr.heap[j]? = w1.heap[j]?) ∧ w1.heap.size < wr.heap.size ∧ Below w.heap.size w wr) (fun i _ => N - (intOf i).toNat)
  case atStart =>
    refine ⟨0, Nat.zero_le _, rfl, ?_, setRow_heap _ _ _ _ _ _ (heap_at _ _ _ rfl), fun j hj hj2 => ?_, by simp, below_setRow (hbw.alloc (by omega) _) (by omega) _⟩
    · rw [setRow_other _ _ _ _ (by omega), Below.heap_alloc _ _ _ (by omega), HHA.out]; exact G0.out
    · rw [setRow_other _ _ _ _ (by omega), Below.heap_alloc _ _ _ hj2]
  case round =>
    obtain ⟨k, hk, rfl, hh, hkk, hoth, hsz, hbel⟩ := hrel
    have HH : Hid _ := hh
    have HKK : Hid _ := hkk
    have HOTH : Hid _ := hoth
    by_cases hlt : k < N
    · have hk64 : 64 * k + 64 ≤ l.length := by have := HNN.out; omega
      have rK := rangeAt_row hkk
      have rB := HCB.out k hlt wr hbel
      have hnew := HROW.out k
      have hP := HP8.out k
      have hP1 := HP8.out (k + 1)
      have hB64 := HBL.out k hlt
      have hcall := fun W => hprs (PA k) (blk l k) W hP hB64
      rw [← hnew] at hcall
      have hib : (Tryz.prog.info? 107).map (·.size) = some ((blk l k).map B8).length := by rw [List.length_map, hB64]; kernel_rfl
      have hiK := HI63.out
      have hiH := HI31.out k
      have hiN := HI31.out (k + 1)
      have hsl := fun W => sliceFrom W g l.length cap k (by omega) hcap hcm
      have hslA : ∀ W, (Instr.sliceAt 64 (.slice (some ⟨g, 0, none⟩) l.length cap) (some (.int .i64 ((k : Int) * 64))) none none).run Tryz.prog W = .ok (.slice (some ⟨g, 64 * k, none⟩) (l.length - 64 * k) (cap - 64 * k)) W := fun W => by
        rw [run_sliceAt_slice W 64 _ _ _ _ (by kernel_rfl)]; exact hsl W
      have hwr : IntKind.i64.wrap ((k : Int) * 64) = (k : Int) * 64 := wrap_i64_in _ (by omega) (by omega)
      have har := fun W => run_arrayAt (P := Tryz.prog) W 107 5 64 (some ⟨g, 64 * k, none⟩) (l.length - 64 * k) (cap - 64 * k) Tryz.underlying107 (by omega)
      have hu32 := Tryz.underlying107
      have hu63 := Tryz.underlying138
      have rB' : wr.drew.rangeAt g (64 * k) ((blk l k).map B8) := by simpa using rB
      have rK' : wr.drew.rangeAt w1.heap.size 0 KC := by simpa using rK
      have hn1 : (((PA (k + 1)).map W32).toArray).all (·.oneCell') = true := W32_one _
      have hs8 : ((PA k).map W32).toArray.size = ((PA (k + 1)).map W32).toArray.size := by simp [hP, hP1]
      have HN1 : Hid _ := hn1
      have HS8 : Hid _ := hs8
      have HIN : Hid _ := hiN
      have HIH : Hid _ := hiH
      clear hh hkk hoth hnew hP hP1 hB64 hn1 hs8 hprs rB rK hiN hiH
      generalize (blk l k).map B8 = bcs at *
      obtain ⟨NB, hNB⟩ : ∃ NB, NB = ((PA (k + 1)).map W32).toArray := ⟨_, rfl⟩
      have hIN' : (Tryz.prog.info? 102).map (·.size) = some NB.size := by rw [hNB]; exact HIN.out
      have hN1' : NB.all (·.oneCell') = true := by rw [hNB]; exact HN1.out
      have hS8' : ((PA k).map W32).toArray.size = NB.size := by rw [hNB]; exact HS8.out
      rw [← hNB] at hcall
      have HNB : Hid _ := hNB
      have HIN' : Hid _ := hIN'
      have HN1' : Hid _ := hN1'
      have HS8' : Hid _ := hS8'
      clear hNB hIN' hN1' hS8' HN1 HS8 HIN
      go_wp2
      refine wp_region_held_drew (S := fun w' => w'.rangeAt g (64 * k) bcs ∧ w'.rangeAt w1.heap.size 0 KC) (by kernel_rfl) ⟨rB', rK'⟩ (fun hHeld => ?_)
      refine wpAnyH_take (i := 7) (oi := ⟨some 25, .load 138 (.tmp 5), 138, _, #[], none⟩) rfl (by kernel_rfl) (by kernel_rfl) (by kernel_rfl) (fun _ _ _ h => h) (yieldsIf_load_mid (by rfl) 138 (.tmp 5) rfl w1.heap.size 0 rfl KC _ (fun _ h => h.2) hu63 rfl hiK) hHeld ?_
      try simp only [Act.put, qT, q0, qS]
      refine wpAnyH_take (i := 1) (oi := ⟨some 19, .move (.tmp 1), 64, _, #[], none⟩) (v := .slice (some ⟨g, 0, none⟩) l.length cap) rfl (by kernel_rfl) (by kernel_rfl) (by kernel_rfl) (fun _ _ _ h => h) (Or.inl ⟨by rfl, fun w' hw' => ?_⟩) hHeld ?_
      · first | (go_simp; done) | (go_simp; rfl)
      try simp only [Act.put, qT, q0, qS]
      refine wpAnyH_take (i := 2) (oi := ⟨some 20, .move (.tmp 6), 3, _, #[], none⟩) (v := .int .i64 (k : Int)) rfl (by kernel_rfl) (by kernel_rfl) (by kernel_rfl) (fun _ _ _ h => h) (Or.inl ⟨by rfl, fun w' hw' => ?_⟩) hHeld ?_
      · first | (go_simp; done) | (go_simp; rfl)
      try simp only [Act.put, qT, q0, qS]
      refine wpAnyH_take (i := 3) (oi := ⟨some 21, .binOp .mul 3 (.tmp 20) (.const (.int .i64 64)) 3, 3, _, #[⟨2, .data⟩], none⟩) (v := .int .i64 ((k : Int) * 64)) rfl (by kernel_rfl) (by kernel_rfl) (by kernel_rfl) (fun _ _ _ h => h) (Or.inl ⟨by rfl, fun w' hw' => ?_⟩) hHeld ?_
      · first | (go_simp; done) | (go_simp; rfl)
      try simp only [Act.put, qT, q0, qS]
      refine wpAnyH_take (i := 4) (oi := ⟨some 22, .slice 64 (.tmp 19) (some (.tmp 21)) none none, 64, _, #[⟨1, .data⟩, ⟨3, .data⟩], none⟩) (v := .slice (some ⟨g, 64 * k, none⟩) (l.length - 64 * k) (cap - 64 * k)) rfl (by kernel_rfl) (by kernel_rfl) (by kernel_rfl) (fun _ _ _ h => h) (Or.inl ⟨by rfl, fun w' hw' => ?_⟩) hHeld ?_
      · first | (go_simp; done) | (go_simp; rfl)
      try simp only [Act.put, qT, q0, qS]
      refine wpAnyH_take (i := 5) (oi := ⟨some 23, .sliceToArrayPointer 107 (.tmp 22), 0, _, #[⟨4, .data⟩], none⟩) (v := .pointer (some ⟨g, 64 * k, none⟩)) rfl (by kernel_rfl) (by kernel_rfl) (by kernel_rfl) (fun _ _ _ h => h) (Or.inl ⟨by rfl, fun w' hw' => ?_⟩) hHeld ?_
      · first | (go_simp; done) | (go_simp; rfl)
      try simp only [Act.put, qT, q0, qS]
      refine wpAnyH_take (i := 6) (oi := ⟨some 24, .load 107 (.tmp 23), 107, _, #[⟨5, .data⟩], none⟩) rfl (by kernel_rfl) (by kernel_rfl) (by kernel_rfl) (fun _ _ _ h => h) (yieldsIf_load_mid (by rfl) 107 (.tmp 23) rfl g (64 * k) rfl bcs _ (fun _ h => h.1) hu32 rfl hib) hHeld ?_
      try simp only [Act.put, qT, q0, qS]
      refine wpAnyH_ready (rs := [0]) (by kernel_rfl) (by simp) ?_
      refine AllReadyH.cons (o := ⟨some 18, .load 102 (.tmp 2), 102, _, #[], none⟩) rfl (fun K hK => ?_) AllReadyH.nil
      rw [if_pos (by rfl)]
      refine wp_load_row 102 _ rfl w.heap.size rfl 102 ((PA k).map W32).toArray (0, 0) _ (by rw [heap_drew]; exact HH.out) Tryz.underlying102 rfl HIH.out ?_
      refine hK.out _ _ hHeld (fun _ => ?_)
      clear hK K
      try simp only [Act.put, qT, q0, qS]
      refine wpAnyH_ready (rs := [8]) (by kernel_rfl) (by simp) ?_
      refine AllReadyH.cons (o := { dst := some 26, op := .call { callee := .value (.func 96), args := #[.tmp 18, .tmp 24, .tmp 25], argTypes := #[102, 107, 138] }, type := 102, pos := _, after := #[⟨0, .data⟩, ⟨6, .data⟩, ⟨7, .data⟩], guard := none }) rfl (fun K hK => ?_) AllReadyH.nil
      rw [if_pos (by rfl)]
      go_wp2_with fail
      refine (hcall _).mono ?_
      rintro e w2 ⟨rfl, hb2⟩
      have hh2 : w2.heap[w.heap.size]? = some (.cells ((PA k).map W32).toArray 102 (0, 0)) := (hb2.block _ (by simp; omega)).trans HH.out
      have hH2 : w2.rangeAt g (64 * k) bcs ∧ w2.rangeAt w1.heap.size 0 KC := ⟨rangeAt_below hHeld.1 hb2, rangeAt_below hHeld.2 hb2⟩
      refine hK.out _ _ hH2 (fun _ => ?_)
      clear hK K
      try simp only [Act.put, qT, q0, qS]
      refine wpAnyH_ready (rs := [9]) (by kernel_rfl) (by simp) ?_
      refine AllReadyH.cons (o := ⟨none, .store 102 (.tmp 2) (.tmp 26), 0, _, #[⟨8, .data⟩, ⟨8, .chain⟩, ⟨0, .phase⟩, ⟨1, .phase⟩, ⟨2, .phase⟩, ⟨3, .phase⟩, ⟨4, .phase⟩, ⟨5, .phase⟩, ⟨6, .phase⟩, ⟨7, .phase⟩, ⟨8, .phase⟩], none⟩) rfl (fun K hK => ?_) AllReadyH.nil
      rw [if_pos (by rfl)]
      refine wp_store_row 102 _ _ rfl w.heap.size NB rfl rfl 102 _ hh2 HIN'.out HS8'.out HN1'.out ?_
      refine hK.out _ _ ⟨rangeAt_setRow hH2.1 (by omega), rangeAt_setRow hH2.2 (by omega)⟩ (fun _ => ?_)
      clear hK K
      try simp only [Act.put, qT, q0, qS]
      refine wpAnyH_done (by kernel_rfl) ?_ _
      have HH2 : Hid _ := hh2
      clear hh2 hH2 hHeld
      go_wp2
      go_roundw
      case rel =>
        refine ⟨k + 1, by omega, by go_num, ?_, ?_, fun j hj hj2 => ?_, ?_, ?_⟩
        · rw [← HNB.out]; exact setRow_heap _ _ _ _ _ _ HH2.out
        · rw [setRow_other _ _ _ _ (by omega), hb2.block _ (by simp; omega)]; exact HKK.out
        · rw [setRow_other _ _ _ _ hj, hb2.block _ (by simp; omega)]; exact HOTH.out j hj hj2
        · have := hb2.size; simp at this ⊢; omega
        · exact below_setRow ((hbel.drew).trans (hb2.mono (by simp; omega))) (Nat.le_refl _) _
      case measure => simp [intOf]; omega
    · have hkN : k = N := by omega
      subst hkN
      have hr := (hoth (w.heap.size + 1) (by omega) (by omega)).trans G1.out
      obtain ⟨RS, hRS⟩ : ∃ RS, RS = ((PA k).map W32).toArray := ⟨_, rfl⟩
      have hri : (Tryz.prog.info? 102).map (·.size) = some RS.size := by rw [hRS]; exact HI31.out k
      have hr1 : RS.all (·.oneCell') = true := by rw [hRS]; exact W32_one _
      have hr8 : 8 = RS.size := by rw [hRS]; simp [HP8.out k]
      rw [← hRS] at hh
      have HH8 : Hid _ := hh
      have HR : Hid _ := hr
      have HRI : Hid _ := hri
      have HR1 : Hid _ := hr1
      have HR8 : Hid _ := hr8
      have HRS : Hid _ := hRS
      clear hh hr hri hr1 hr8 hRS hoth hkk hprs HH HKK HOTH
      go_wp2_with (first
        | (refine wpList_load_row rfl 102 _ rfl w.heap.size rfl 102 _ (0, 0) _ HH8.out Tryz.underlying102 rfl HRI.out ?_)
        | (refine wpList_store_row rfl 102 _ _ rfl (w.heap.size + 1) _ rfl rfl 102 _ HR.out HRI.out HR8.out HR1.out ?_))
      refine bodyPost_ret (v := .agg RS) ?_ rfl ⟨by rw [HRS.out, HQQ.out], below_setRow hbel (by omega) _⟩
      exact results_cell_row Tryz.results83 _ _ (w.heap.size + 1) 102 _ (0, 0) _ rfl (setRow_heap _ _ _ _ _ _ HR.out) Tryz.underlying102 rfl HRI.out

end Go.Proofs.YtbmmibmfjhehhaaGreat

/- Contracts: sha's Press; ref's Press over lists; equal rows of words, of bytes; rows that came in. -/
namespace Go.Proofs.YtbmmibmfjhehhaaGreat
open Go.RowKit

theorem h3a (w : World) (a b c : Obj) : (((w.alloc a).alloc b).alloc c).drew.heap[w.heap.size]? = some a := by
  rw [heap_drew, Below.heap_alloc _ _ _ (by simp; omega), Below.heap_alloc _ _ _ (by simp)]; exact heap_alloc_new _ _
theorem h3b (w : World) (a b c : Obj) : (((w.alloc a).alloc b).alloc c).drew.heap[w.heap.size + 1]? = some b := by
  rw [heap_drew, Below.heap_alloc _ _ _ (by simp)]; exact heap_at _ _ _ (by simp)
theorem h3c (w : World) (a b c : Obj) : (((w.alloc a).alloc b).alloc c).drew.heap[w.heap.size + 2]? = some c := by
  rw [heap_drew]; exact heap_at _ _ _ (by simp)
theorem HW.below {w w' : World} {v : Value} {l : List UInt32} (h : HW w v l) (hb : Below w.heap.size w w') : HW w' v l := by
  obtain ⟨p, cap, h1, h2⟩ := h
  refine ⟨p, cap, h1, fun i hi => ?_⟩
  obtain ⟨b, o, e, hc⟩ := h2 i hi
  exact ⟨b, o, e, (hb.cell (block_lt hc)).trans hc⟩
theorem size_u8 (w : World) : (sizeOf 5).run Tryz.prog w = .ok 1 w := by
  obtain ⟨i0, hi, hz0, hz1, hz2⟩ := info_parts Tryz.infoU8
  simp [sizeOf, typeInfo, hi, hz1]
theorem eql_digest (w : World) (xs ys : List UInt8) (hx : xs.length = 32) (hy : ys.length = 32) : (binOp .eql 23 (.agg (xs.map B8).toArray) (.agg (ys.map B8).toArray)).run Tryz.prog w = .ok (.bool (xs == ys)) w :=
  run_eql_bytes w 23 5 32 Tryz.underlying23 Tryz.underlying5 size_u8 xs ys hx hy


end Go.Proofs.YtbmmibmfjhehhaaGreat
