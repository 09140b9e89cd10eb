/- Contract of sha's spread: a block's 64 words. -/
import Derived.Test.YtefhjjjjbkkedaaR3
import Derived.Deep.RegionHeld3
import Derived.Deep.RegionWith
set_option linter.unusedVariables false
set_option linter.unusedSimpArgs false
namespace Go.Proofs.Ytefhjjjjbkkedaa
open Go.RowKit

theorem sched_get (bs : List UInt8) (j k i : Nat) (h : j ≤ k) (hi : i < 16 + j) : (sched bs k).getD i 0 = (sched bs j).getD i 0 := by
  induction h with
  | refl => rfl
  | step h ih =>
    rename_i m
    rw [← ih]
    have hl := sched_len bs m
    have hm : j ≤ m := h
    show (sched bs m ++ [ext (sched bs m) (16 + m)]).getD i 0 = _
    simp [List.getD, List.getElem?_append_left (show i < (sched bs m).length by omega)]
theorem words_get (bs : List UInt8) (i : Nat) (h : i < 16) : (words bs 16).getD i 0 = wordOf (bs.getD (4 * i) 0) (bs.getD (4 * i + 1) 0) (bs.getD (4 * i + 2) 0) (bs.getD (4 * i + 3) 0) := by
  unfold words
  simp [List.getD, List.getElem?_map, List.getElem?_range h]
theorem sched_low (bs : List UInt8) (K i : Nat) (h : i < 16) : (sched bs K).getD i 0 = wordOf (bs.getD (4 * i) 0) (bs.getD (4 * i + 1) 0) (bs.getD (4 * i + 2) 0) (bs.getD (4 * i + 3) 0) := by
  rw [sched_get bs 0 K i (Nat.zero_le _) (by omega)]; exact words_get bs i h
theorem sched_high (bs : List UInt8) (K i : Nat) (h : 16 ≤ i) (h2 : i < 16 + K) : (sched bs K).getD i 0 = (sched bs K).getD (i - 16) 0 + sg0 ((sched bs K).getD (i - 15) 0) + (sched bs K).getD (i - 7) 0 + sg1 ((sched bs K).getD (i - 2) 0) := by
  rw [sched_get bs (i - 16 + 1) K i (by omega) (by omega), sched_get bs (i - 16) K (i - 16) (by omega) (by omega), sched_get bs (i - 16) K (i - 15) (by omega) (by omega), sched_get bs (i - 16) K (i - 7) (by omega) (by omega), sched_get bs (i - 16) K (i - 2) (by omega) (by omega)]
  show (sched bs (i - 16) ++ [ext (sched bs (i - 16)) (16 + (i - 16))]).getD i 0 = _
  have hl := sched_len bs (i - 16)
  rw [show 16 + (i - 16) = i by omega]
  simp only [List.getD, List.getElem?_append_right (show (sched bs (i - 16)).length ≤ i by omega), hl, show i - (16 + (i - 16)) = 0 by omega]
  rfl
theorem xro0 (x : UInt32) : xro x [7, 18] ^^^ (x >>> 3) = sg0 x := by unfold xro sg0; simp
theorem xro1 (x : UInt32) : xro x [17, 19] ^^^ (x >>> 10) = sg1 x := by unfold xro sg1; simp
theorem part_get (n : Nat) (T : List UInt32) (k j : Nat) (hT : T.length = n) (h : k ≤ n) (hj : j < k) : ((part n T k).map W32).toArray[j]? = some (.int .u32 (U (T.getD j 0))) := by
  have hl : j < T.length := by omega
  have : (part n T k)[j]? = some (T.getD j 0) := by
    unfold part
    rw [List.getElem?_append_left (by simp; omega), List.getElem?_take_of_lt hj]
    simp [List.getD, List.getElem?_eq_getElem hl]
  simp [this, W32]
theorem heap_at (w : World) (o : Obj) (n : Nat) (h : n = w.heap.size) : (w.alloc o).heap[n]? = some o := by subst h; exact heap_alloc_new _ _

theorem rotations_at (p : Option Addr) (n cap m : Nat) (w : World) (hm : m = w.heap.size) : Calls Try.prog 78 #[.slice p n cap] w fun e w' => e = .returned (.func (.func 85) #[] #[.pointer (some ⟨m, 0, none⟩)]) ∧ w' = w.alloc (.cells #[.slice p n cap] 76) := by
  subst hm; exact rotations_any p n cap w
/-- In this world a closure over these two rotations lies at block B. -/
def Rot2 (w : World) (B g n1 n2 : Nat) : Prop := w.cell? ⟨B, 0, none⟩ = some (.slice (some ⟨g, 0, none⟩) 2 2) ∧ w.cell? ⟨g, 0, none⟩ = some (.int .i64 (n1 : Int)) ∧ w.cell? ⟨g, 1, none⟩ = some (.int .i64 (n2 : Int))
theorem rot2_any (x : UInt32) (n1 n2 B g : Nat) (w : World) (h1 : 1 ≤ n1 ∧ n1 ≤ 31) (h2 : 1 ≤ n2 ∧ n2 ≤ 31) (h : Rot2 w B g n1 n2) :
    Calls Try.prog 85 #[.int .u32 (U x), .pointer (some ⟨B, 0, none⟩)] w fun e w' => e = .returned (.int .u32 (U (xro x [n1, n2]))) ∧ w = w' := by
  refine rot_any x [n1, n2] B g 2 w (by simp) ?_ h.1 ?_
  · intro i hi
    have hi2 : i = 0 ∨ i = 1 := by simp at hi; omega
    rcases hi2 with rfl | rfl
    · exact h1
    · exact h2
  · intro i hi
    have hi2 : i = 0 ∨ i = 1 := by simp at hi; omega
    rcases hi2 with rfl | rfl
    · exact h.2.1
    · exact h.2.2
theorem Rot2.heap {w w' : World} {B g n1 n2 : Nat} (h : Rot2 w B g n1 n2) (hw : w'.heap = w.heap) : Rot2 w' B g n1 n2 := by
  obtain ⟨h1, h2, h3⟩ := h
  have e : ∀ a, w'.cell? a = w.cell? a := fun a => by unfold World.cell?; rw [hw]
  exact ⟨(e _).trans h1, (e _).trans h2, (e _).trans h3⟩
theorem rot2_at (x : UInt32) (n1 n2 B g : Nat) (w w0 : World) (h1 : 1 ≤ n1 ∧ n1 ≤ 31) (h2 : 1 ≤ n2 ∧ n2 ≤ 31) (h : Rot2 w0 B g n1 n2) (hw : w.heap = w0.heap) :
    Calls Try.prog 85 #[.int .u32 (U x), .pointer (some ⟨B, 0, none⟩)] w fun e w' => e = .returned (.int .u32 (U (xro x [n1, n2]))) ∧ w = w' := rot2_any x n1 n2 B g w h1 h2 (h.heap hw)
theorem Rot2.below {w w' : World} {B g n1 n2 : Nat} (h : Rot2 w B g n1 n2) (hb : Below w.heap.size w w') : Rot2 w' B g n1 n2 := by
  obtain ⟨h1, h2, h3⟩ := h
  exact ⟨(hb.cell (block_lt h1)).trans h1, (hb.cell (block_lt h2)).trans h2, (hb.cell (block_lt h3)).trans h3⟩

theorem cell_off (w : World) (g i j : Nat) (v : Value) (cs : Array Value) (t : TypeId) (h : w.heap[g]? = some (.cells cs t (0, 0))) (hij : i ≠ j) : (w.setCell ⟨g, i, none⟩ v).cell? ⟨g, j, none⟩ = w.cell? ⟨g, j, none⟩ := by
  rw [cell_of_row _ _ j _ _ _ (heap_setCell_same w g i cs t v h), cell_of_row _ _ j _ _ _ h, Array.getElem?_setIfInBounds_ne hij]
theorem sliceArr (w : World) (b k : Nat) (h : k < 16) : (Instr.sliceAt 101 (.pointer (some ⟨b, 0, none⟩)) (some (.int .i64 ((k : Int) * 4))) none none).run Try.prog w = .ok (.slice (some ⟨b, 4 * k, none⟩) (64 - 4 * k) (64 - 4 * k)) w := by
  have h0 : (0 : Int) ≤ (k : Int) * 4 := by omega
  have ha : Try.prog.arrayLen 101 = 64 := by kernel_rfl
  have hu : Try.prog.underlying 101 = some (.array (Try.prog.arrayLen 101) (Try.prog.elem 101)) := by kernel_rfl
  have hz : (sizeOf (Try.prog.elem 101)).run Try.prog w = .ok 1 w := by
    obtain ⟨i0, hi, hz0, hz1, hz2⟩ := info_parts Try.infoU8
    have he : Try.prog.elem 101 = 5 := by kernel_rfl
    rw [he]
    simp [sizeOf, typeInfo, hi, hz1]
  rw [run_sliceAt_array_l w 101 _ hu .i64 _ h0 (by rw [ha]; omega), hz, ha]
  have ht : ((k : Int) * 4).toNat = 4 * k := by omega
  simp only [Result.andThen, slicedAt, ht]
  rw [if_neg (by omega)]
  have hadd : (⟨b, 0, none⟩ : Addr).add (4 * k * 1) = ⟨b, 4 * k, none⟩ := by unfold Addr.add; split <;> simp_all
  rw [hadd]

attribute [local go_sem] U_not U_xor U_xor3 U_xor10 U_and U_or U_shr3 U_shr10 U_add U_addw

set_option maxHeartbeats 8000000 in
set_option maxRecDepth 100000 in
theorem spread_any (bs : List UInt8) (w : World) (hb : bs.length = 64) :
    Calls Try.prog 77 #[.agg (bs.map B8).toArray] w fun e w' => e = .returned (.agg ((sched bs 48).map W32).toArray) ∧ Below w.heap.size w w' := by
  obtain ⟨BA, hBA⟩ : ∃ BA, BA = (bs.map B8).toArray := ⟨_, rfl⟩
  rw [← hBA]
  obtain ⟨K, hK⟩ : ∃ K, K = 48 := ⟨_, rfl⟩
  rw [← hK]
  have hlow := fun i h => sched_low bs K i h
  have hhigh := fun i h h2 => sched_high bs K i h h2
  have hSl := sched_len bs K
  generalize sched bs K = SC at *
  have hSl' : SC.length = 64 := by omega
  have hhigh' : ∀ i, 16 ≤ i → i < 64 → _ := fun i h1 h2 => hhigh i h1 (by omega)
  have HL : Hid _ := hlow
  have HH : Hid _ := hhigh'
  have HS : Hid _ := hSl'
  have HBA : Hid _ := hBA
  have HB : Hid _ := hb
  clear hlow hhigh hhigh' hSl hSl' hK hBA hb
  go_enter Try.func77, Try.ntmps77
  go_wp2_with fail
  refine (rotations_any _ _ _ _).mono ?_
  rintro e wx ⟨rfl, rfl⟩
  go_wp2_with fail
  refine (rotations_at _ _ _ (w.heap.size + 1 + 1 + 1 + 1 + 1) _ (by simp)).mono ?_
  rintro e w5 ⟨rfl, hw5⟩
  have f0 : w5.heap[w.heap.size]? = some (.cells BA 101 (0, 0)) := by
    rw [hw5]; repeat (first | exact heap_at _ _ _ (by simp) | rw [Below.heap_alloc _ _ _ (by first | (simp; omega) | simp)])
  have f1 : w5.heap[w.heap.size + 1]? = some (.cells ((part 64 SC 0).map W32).toArray 112 (0, 0)) := by
    rw [hw5]; repeat (first | exact heap_at _ _ _ (by simp) | rw [Below.heap_alloc _ _ _ (by first | (simp; omega) | simp)])
  have f2 : w5.heap[w.heap.size + 1 + 1]? = some (.cells #[.int .i64 7, .int .i64 18] 3 (0, 0)) := by
    rw [hw5]; repeat (first | exact heap_at _ _ _ (by simp) | rw [Below.heap_alloc _ _ _ (by first | (simp; omega) | simp)])
  have f3 : w5.heap[w.heap.size + 1 + 1 + 1]? = some (.cells #[.slice (some ⟨w.heap.size + 1 + 1, 0, none⟩) 2 2] 76 (0, 0)) := by
    rw [hw5]; repeat (first | exact heap_at _ _ _ (by simp) | rw [Below.heap_alloc _ _ _ (by first | (simp; omega) | simp)])
  have f4 : w5.heap[w.heap.size + 1 + 1 + 1 + 1]? = some (.cells #[.int .i64 17, .int .i64 19] 3 (0, 0)) := by
    rw [hw5]; repeat (first | exact heap_at _ _ _ (by simp) | rw [Below.heap_alloc _ _ _ (by first | (simp; omega) | simp)])
  have f5 : w5.heap[w.heap.size + 1 + 1 + 1 + 1 + 1]? = some (.cells #[.slice (some ⟨w.heap.size + 1 + 1 + 1 + 1, 0, none⟩) 2 2] 76 (0, 0)) := by
    rw [hw5]; exact heap_at _ _ _ (by simp)
  have hs5 : w5.heap.size = w.heap.size + 6 := by rw [hw5]; simp
  have hb5 : Below w.heap.size w w5 := by
    rw [hw5]; exact (((((((Below.refl _ _).alloc (Nat.le_refl _) _).alloc (by simp) _).alloc (by simp; omega) _).alloc (by simp; omega) _).alloc (by simp; omega) _).alloc (by simp; omega) _)
  have r1 : Rot2 w5 (w.heap.size + 1 + 1 + 1) (w.heap.size + 1 + 1) 7 18 := ⟨cell_of_row _ _ 0 _ _ _ f3, cell_of_row _ _ 0 _ _ _ f2, cell_of_row _ _ 1 _ _ _ f2⟩
  have r2 : Rot2 w5 (w.heap.size + 1 + 1 + 1 + 1 + 1) (w.heap.size + 1 + 1 + 1 + 1) 17 19 := ⟨cell_of_row _ _ 0 _ _ _ f5, cell_of_row _ _ 0 _ _ _ f4, cell_of_row _ _ 1 _ _ _ f4⟩
  have hblk : ∀ i, i < 64 → w5.cell? ⟨w.heap.size, i, none⟩ = some (B8 (bs.getD i 0)) := fun i hi' => by
    rw [cell_of_row _ _ _ _ _ _ f0, HBA.out]
    have hl : i < bs.length := by rw [HB.out]; exact hi'
    simp [List.getD, List.getElem?_eq_getElem hl]
  have HF1 : Hid _ := f1
  have HR1 : Hid _ := r1
  have HR2 : Hid _ := r2
  have HBK : Hid _ := hblk
  have hs5' : w.heap.size + 6 ≤ w5.heap.size := by omega
  have HS5 : Hid _ := hs5
  clear f0 f1 f2 f3 f4 f5 r1 r2 hblk hw5 hs5
  go_wp2
  go_loopw [13] (fun i wr => ∃ k : Nat, k ≤ 64 ∧ i = .int .i64 k ∧ wr.heap[w5.heap.size]? = some (.cells ((part 64 SC k).map W32).toArray 112 (0, 0)) ∧ w5.heap.size < wr.heap.size ∧ Below w5.heap.size w5 wr) (fun i _ => 64 - (intOf i).toNat)
  case atStart => exact ⟨0, by omega, rfl, heap_alloc_new _ _, by simp, (Below.refl _ _).alloc (Nat.le_refl _) _⟩
  case round =>
    obtain ⟨k, hk, rfl, hT, hsz, hbel⟩ := hrel
    have HT : Hid _ := hT
    by_cases hlt : k < 64
    · have hset := part_set 64 SC k HS.out hlt
      obtain ⟨u, hu⟩ := part_cell 64 SC k HS.out hlt
      have hcu := cell_of_row _ _ k _ _ _ hT
      rw [hu] at hcu
      have hfu := frozen_of_row _ _ k _ _ hT
      have HSET : Hid _ := hset
      clear hset hu
      by_cases h16 : k < 16
      · have hlk := HL.out k h16
        have hc4 : ∀ i, i < 4 → wr.cell? ⟨w.heap.size, 4 * k + i, none⟩ = some (.int .u8 ((bs.getD (4 * k + i) 0).toNat : Int)) := fun i hi => (hbel.cell (by simp; omega)).trans (HBK.out (4 * k + i) (by omega))
        have HC4 : Hid _ := hc4
        have HLK : Hid _ := hlk
        generalize SC.getD k 0 = x at *
        clear hT hc4 hlk
        have hsl := sliceArr wr w.heap.size k (by omega)
        go_wp2_with (go_at_call 84; refine (word_any (fun i => bs.getD (4 * k + i) 0) w.heap.size (4 * k) (64 - 4 * k) (64 - 4 * k) _ (by omega) (by omega) HC4.out).mono ?_; rintro e wx ⟨rfl, rfl⟩)
        go_roundw
        case rel =>
          refine ⟨k + 1, by omega, by go_num, ?_, by simp; omega, hbel.setCell (p := ⟨w5.heap.size, k, none⟩) (Nat.le_refl _) _⟩
          rw [← HSET.out]
          have hx := HLK.out
          rw [hx]
          exact heap_setCell_same _ w5.heap.size k _ 112 _ HT.out
        case measure => simp [intOf]; omega
      · have il2 : 16 ≤ k := by omega
        have hg : ∀ j, j < k → wr.cell? ⟨w5.heap.size, j, none⟩ = some (.int .u32 (U (SC.getD j 0))) := fun j hj => (cell_of_row _ _ j _ _ _ hT).trans (part_get 64 SC k j HS.out hk hj)
        have a15 := hg (k - 15) (by omega)
        have a2 := hg (k - 2) (by omega)
        have a16 := hg (k - 16) (by omega)
        have a7 := hg (k - 7) (by omega)
        have hhk := HH.out k il2 hlt
        have r1 : Rot2 wr (w.heap.size + 1 + 1 + 1) (w.heap.size + 1 + 1) 7 18 := Rot2.below HR1.out hbel
        have r2 : Rot2 wr (w.heap.size + 1 + 1 + 1 + 1 + 1) (w.heap.size + 1 + 1 + 1 + 1) 17 19 := Rot2.below HR2.out hbel
        have HHK : Hid _ := hhk
        have HR1' : Hid _ := r1
        have HR2' : Hid _ := r2
        clear hg hT hhk r1 r2
        generalize SC.getD (k - 15) 0 = x15 at *
        generalize SC.getD (k - 2) 0 = x2 at *
        generalize SC.getD (k - 16) 0 = x16 at *
        generalize SC.getD (k - 7) 0 = x7 at *
        generalize SC.getD k 0 = x at *
        have q15 : IntKind.i64.wrap ((k : Int) - 15) = (k : Int) - 15 := wrap_i64_in _ (by omega) (by omega)
        have q2 : IntKind.i64.wrap ((k : Int) - 2) = (k : Int) - 2 := wrap_i64_in _ (by omega) (by omega)
        have q16 : IntKind.i64.wrap ((k : Int) - 16) = (k : Int) - 16 := wrap_i64_in _ (by omega) (by omega)
        have q7 : IntKind.i64.wrap ((k : Int) - 7) = (k : Int) - 7 := wrap_i64_in _ (by omega) (by omega)
        have t15 : ((k : Int) - 15).toNat = k - 15 := by omega
        have t2 : ((k : Int) - 2).toNat = k - 2 := by omega
        have t16 : ((k : Int) - 16).toNat = k - 16 := by omega
        have t7 : ((k : Int) - 7).toNat = k - 7 := by omega
        have l15 : (0 : Int) ≤ (k : Int) - 15 ∧ (k : Int) - 15 < 64 := by omega
        have l2 : (0 : Int) ≤ (k : Int) - 2 ∧ (k : Int) - 2 < 64 := by omega
        have l16 : (0 : Int) ≤ (k : Int) - 16 ∧ (k : Int) - 16 < 64 := by omega
        have l7 : (0 : Int) ≤ (k : Int) - 7 ∧ (k : Int) - 7 < 64 := by omega
        have m16 : (16 : Int) ≤ (k : Int) := by omega
        have m7 : (7 : Int) ≤ (k : Int) := by omega
        have m15 : (15 : Int) ≤ (k : Int) := by omega
        have m2 : (2 : Int) ≤ (k : Int) := by omega
        have n16 : ∀ v, (wr.setCell ⟨w5.heap.size, k, none⟩ v).cell? ⟨w5.heap.size, k - 16, none⟩ = some (.int .u32 (U x16)) := fun v => (cell_off _ _ _ _ _ _ _ HT.out (by omega)).trans a16
        have n7 : ∀ v, (wr.setCell ⟨w5.heap.size, k, none⟩ v).cell? ⟨w5.heap.size, k - 7, none⟩ = some (.int .u32 (U x7)) := fun v => (cell_off _ _ _ _ _ _ _ HT.out (by omega)).trans a7
        go_wp2
        go_region
        go_wp2
        go_region_held3 (fun w' => w'.cell? ⟨w5.heap.size, k - 16, none⟩ = some (.int .u32 (U x16)) ∧ w'.cell? ⟨w5.heap.size, k - 7, none⟩ = some (.int .u32 (U x7))) (go_keep) (first | (go_at_call_of 85 (Value.int .u32 (U x15)); refine (rot2_at x15 7 18 (w.heap.size + 1 + 1 + 1) (w.heap.size + 1 + 1) _ wr (by decide) (by decide) HR1'.out (by rfl)).mono ?_; rintro e wx ⟨rfl, rfl⟩) | (go_at_call_of 85 (Value.int .u32 (U x2)); refine (rot2_at x2 17 19 (w.heap.size + 1 + 1 + 1 + 1 + 1) (w.heap.size + 1 + 1 + 1 + 1) _ wr (by decide) (by decide) HR2'.out (by rfl)).mono ?_; rintro e wx ⟨rfl, rfl⟩))
        go_wp2
        go_roundw
        case rel =>
          refine ⟨k + 1, by omega, by go_num, ?_, by simp; omega, (hbel.setCell (p := ⟨w5.heap.size, k, none⟩) (Nat.le_refl _) _).drew.drew⟩
          rw [heap_drew, heap_drew, ← HSET.out, HHK.out, ← xro0, ← xro1]
          exact heap_setCell_same _ w5.heap.size k _ 112 _ HT.out
        case measure => simp [intOf]; omega
    · have hk' : k = 64 := by omega
      subst hk'
      have hT' := hT
      rw [part_all 64 SC HS.out] at hT'
      have hR : wr.heap[w.heap.size + 1]? = some (.cells ((part 64 SC 0).map W32).toArray 112 (0, 0)) := (hbel.block _ (by omega)).trans HF1.out
      have hsc : (SC.map W32).toArray.size = 64 := by simp [HS.out]
      have hpz : ((part 64 SC 0).map W32).toArray.size = 64 := by simp [part_len 64 SC 0 HS.out (by omega)]
      have hi64 : (Try.prog.info? 112).map (·.size) = some (SC.map W32).toArray.size := by rw [hsc]; kernel_rfl
      have hbw : Below w.heap.size w wr := hb5.trans (hbel.mono (by omega))
      have HT' : Hid _ := hT'
      have HR : Hid _ := hR
      have HI : Hid _ := hi64
      have HZ : Hid _ := hpz.trans hsc.symm
      have HW1 : Hid _ := W32_one SC
      clear hT HT hT' hR hi64 hsc hpz
      go_wp2_with (first
        | (refine wpList_load_row rfl 112 _ rfl w5.heap.size rfl 112 _ (0, 0) _ HT'.out Try.underlying112 rfl HI.out ?_)
        | (refine wpList_store_row rfl 112 _ _ rfl (w.heap.size + 1) _ rfl rfl 112 _ HR.out HI.out HZ.out HW1.out ?_))
      refine bodyPost_ret (v := .agg (SC.map W32).toArray) ?_ rfl ⟨rfl, below_setRow hbw (by omega) _⟩
      exact results_cell_row Try.results77 _ _ (w.heap.size + 1) 112 _ (0, 0) _ rfl (setRow_heap _ _ _ _ _ _ HR.out) Try.underlying112 rfl HI.out

end Go.Proofs.Ytefhjjjjbkkedaa
