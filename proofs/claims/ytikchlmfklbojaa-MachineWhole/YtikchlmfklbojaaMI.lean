/- MachineWords: the walk. -/
import Derived.Test.YtikchlmfklbojaaMG
set_option linter.unusedVariables false
set_option linter.unusedSimpArgs false
namespace Go.Proofs.Ytikchlmfklbojaa.MC
open Go.RowKit

/-- A row of bytes in memory. -/
def AR (W : World) (ab : Nat) (l : List UInt8) : Prop := W.heap[ab]? = some (.cells (l.map B8).toArray 5 (0, 0))
theorem AR.hb {W : World} {ab N : Nat} {l : List UInt8} (h : AR W ab l) (hN : N = l.length) (hl : l.length ≤ 9223372036854775807) : HB W (.slice (some ⟨ab, 0, none⟩) N N) l := hb_range hN (by omega) (by unfold maxLen; omega) (rangeAt_row h)
theorem AR.cell {W : World} {ab : Nat} {l : List UInt8} (h : AR W ab l) (k : Nat) (hk : k < l.length) : ∃ u, W.cell? ⟨ab, k, none⟩ = some u := by
  refine ⟨B8 l[k], ?_⟩
  rw [cell_of_row _ _ k _ _ _ h]; simp [hk]
theorem AR.frozen {W : World} {ab : Nat} {l : List UInt8} (h : AR W ab l) (k : Nat) : W.frozen? ⟨ab, k, none⟩ = false := by
  unfold World.frozen?; rw [h]; simp
theorem AR.set {W : World} {ab : Nat} {l : List UInt8} (h : AR W ab l) (k : Nat) (x : UInt8) : AR (W.setCell ⟨ab, k, none⟩ (B8 x)) ab (l.set k x) := by
  unfold AR
  rw [heap_setCell_same _ _ _ _ _ _ h, List.setIfInBounds_toArray, List.map_set]
theorem set_splice {α : Type} (L : List α) (k : Nat) (x : α) (h : k < L.length) : L.set k x = splice L k [x] := by
  apply List.ext_getElem?
  intro i
  rw [splice_get _ _ _ (by simp; omega), List.getElem?_set]
  by_cases h1 : i < k
  · rw [if_neg (by omega), if_pos h1]
  · by_cases h2 : i = k
    · subst h2; simp [h]
    · rw [if_neg (by omega), if_neg h1, if_neg (by simp; omega)]
theorem set_step {α : Type} (L : List α) (a : Nat) (b : List α) (k : Nat) (h : a + b.length ≤ L.length) (hk : k < b.length) : (splice L a (b.take k)).set (a + k) b[k] = splice L a (b.take (k + 1)) := by
  have hl : (splice L a (b.take k)).length = L.length := splice_len _ _ _ (by rw [List.length_take]; omega)
  rw [set_splice _ _ _ (by omega), ← splice_step L a b k 1 h (by omega)]
  congr 1
  rw [List.drop_eq_getElem_cons hk]; rfl
theorem AR.step {W : World} {ab : Nat} (L : List UInt8) (a : Nat) (b : List UInt8) (k : Nat) (x : UInt8) (h : AR W ab (splice L a (b.take k))) (hab : a + b.length ≤ L.length) (hx : b[k]? = some x) : AR (W.setCell ⟨ab, a + k, none⟩ (B8 x)) ab (splice L a (b.take (k + 1))) := by
  obtain ⟨hk, rfl⟩ := List.getElem?_eq_some_iff.1 hx
  rw [← set_step L a b k hab hk]
  exact h.set (a + k) _
/-- The bytes that are laid first. -/
def fill (c : Nat) (N : Nat) : List UInt8 := (List.range N).map fun i => UInt8.ofNat (c + i)
theorem fill_len (c N : Nat) : (fill c N).length = N := by simp [fill]
theorem fill_get (c N k : Nat) (h : k < (fill c N).length) : (fill c N)[k] = UInt8.ofNat (c + k) := by simp [fill]
theorem b8_ofNat (m : Nat) : B8 (UInt8.ofNat m) = .int .u8 ((m : Int) % 256) := by
  unfold B8
  congr 1
theorem KB.setCell {b o : Nat} {w a : World} (h : KB b w a) (v : Value) : KB b w (a.setCell ⟨b, o, none⟩ v) := ⟨h.1.setCell (p := ⟨b, o, none⟩) (by simp) _, fun j hj hne => (heap_setCell_other _ _ _ _ (by simpa using hne)).trans (h.2 j hj hne)⟩
theorem splice_all {α : Type} (L M : List α) (h : M.length = L.length) : splice L 0 M = M := by
  unfold splice
  rw [List.drop_eq_nil_of_le (by omega)]
  simp

set_option maxHeartbeats 4000000 in
set_option maxRecDepth 100000 in
theorem words_walk (n a x c : Nat) (w : World) (h1 : 1 ≤ n) (h2 : n ≤ 64) (ha : a < 18446744073709551616) (hx : x < 18446744073709551616) (hc : c < 256) :
    Calls Try.prog 7 #[.int .i64 (n : Int), .int .u64 (a : Int), .int .u64 (x : Int), .int .u8 (c : Int)] w fun e w' => e = .returned (.bool true) ∧ Below w.heap.size w w' := by
  have HNW : Hid (Calls Try.prog 9 #[.int .i64 (n : Int)] w fun e w' => NewEnd w n e w') := new_ok n w (by omega) (by omega)
  obtain ⟨i0, hi, hz0, hz1, hz2⟩ := info_parts Try.infoU8
  obtain ⟨N, hN⟩ : ∃ N, N = 128 * n := ⟨_, rfl⟩
  have hNI : 128 * (n : Int) = (N : Int) := by omega
  have hN0 : 128 ≤ N := by omega
  have hN8 : N ≤ 8192 := by omega
  have HN : Hid _ := hN
  clear hN
  go_enter Try.func7, Try.ntmps7
  go_wp2_with fail
  refine Calls.mono HNW.out ?_
  rintro e w1 ⟨mb, gb, rfl, hP, hmb, hgb, hb1⟩
  have hbm := row_lt hP.head
  have hbg := row_lt hP.row
  have HP : Hid _ := hP
  have HB1 : Hid _ := hb1
  have hs1 := hb1.size
  clear hP hb1 HNW
  go_wp2_with (at_make; refine wpList_make_full _ rfl _ _ 32 rfl w1.heap.size 5 i0 (.int .u8 0) 1 Try.underlying32 hi hz0 hz1 _ _ _ _ N rfl rfl (by omega) (by omega) ?b2 ?b3 (Nat.le_refl _) ?_)
  case b2 => rw [hz2]; omega
  case b3 => unfold maxLen; omega
  intro w2 hown0 hgrow0
  have hb2 : Below w1.heap.size w1 w2 := (Below.refl _ _).grown hgrow0 (Nat.le_refl _) (fun k h => by cases h)
  have HR2 : Hid (AR w2 w1.heap.size (splice (List.replicate N 0) 0 ((fill c N).take 0))) := by
    show AR _ _ _
    unfold AR
    rw [List.take_zero, splice_nil]
    rcases hown0.2 with ⟨e1, e2⟩ | ⟨g, cap, cur, e1, e2, e3, e4, e5, e6, e7⟩
    · simp at e1
    · simp only [Value.slice.injEq, Option.some.injEq, Addr.mk.injEq] at e1
      obtain ⟨⟨rfl, _, _⟩, _, rfl⟩ := e1
      rw [e3]
      congr 2
      rw [← Array.toList_inj, List.toList_toArray]
      rw [toList_madeCells_one] at e7
      rw [List.take_of_length_le (by simp; omega)] at e7
      rw [e7, List.map_replicate]
      simp [B8]
  have HB2 : Hid _ := hb2
  clear hown0 hgrow0 hb2 hz0 hz1 hz2 hi
  go_wp2
  go_loopw [12] (fun i wr => ∃ k : Nat, k ≤ N ∧ i = .int .i64 k ∧ AR wr w1.heap.size (splice (List.replicate N 0) 0 ((fill c N).take k)) ∧ Below w1.heap.size w1 wr) (fun i _ => N - (intOf i).toNat)
  case atStart => exact ⟨0, Nat.zero_le _, rfl, HR2.out, HB2.out⟩
  case round =>
    clear HR2 HB2
    obtain ⟨k, hk, rfl, hR, hB⟩ := hrel
    by_cases hlt : k < N
    · have hfl := fill_len c N
      have hl : (splice (List.replicate N (0 : UInt8)) 0 ((fill c N).take k)).length = N := by rw [splice_len _ _ _ (by rw [List.length_take, List.length_replicate]; omega), List.length_replicate]
      obtain ⟨u0, hce⟩ := hR.cell k (by omega)
      have hfz := hR.frozen k
      have HST : Hid _ := AR.step (List.replicate N 0) 0 (fill c N) k (UInt8.ofNat (c + k)) hR (by rw [hfl, List.length_replicate]; omega) (by rw [List.getElem?_eq_getElem (by omega), fill_get])
      have HBB : Hid _ := hB
      clear hR hB hl hfl
      go_wp2
      go_roundw
      case rel =>
        refine ⟨k + 1, by omega, by go_num, ?_, HBB.out.setCell (p := ⟨w1.heap.size, k, none⟩) (Nat.le_refl _) _⟩
        have h := HST.out
        rw [b8_ofNat, Nat.zero_add, show ((c + k : Nat) : Int) = (c : Int) + (k : Int) by omega] at h
        exact h
      case measure => simp [intOf]; omega
    · have hke : k = N := by omega
      subst hke
      have hfl := fill_len c k
      rw [List.take_of_length_le (by omega), splice_all _ _ (by rw [hfl, List.length_replicate])] at hR
      generalize wr = w3 at *
      have hP3 := HP.out.below hB
      have hs3 := hB.size
      have hlt3 := row_lt hR
      have hrep : splice (List.replicate (128 * n) 0) 0 (fill c k) = fill c k := splice_all _ _ (by rw [hfl, List.length_replicate]; exact HN.out)
      have hwr := write_ok mb gb n 0 (List.replicate (128 * n) 0) (fill c k) (.slice (some ⟨w1.heap.size, 0, none⟩) k k) w3 hP3 (by omega) (by rw [hfl, HN.out]; unfold wIn; simp; omega) (fun W hW => AR.hb ((hW.2 _ hlt3 (by omega)).trans hR) hfl.symm (by omega))
      rw [hrep] at hwr
      have HWR : Hid (Calls Try.prog 25 #[.pointer (some ⟨mb, 0, none⟩), .int .u64 0, .slice (some ⟨w1.heap.size, 0, none⟩) k k] w3 fun e w' => e = .returned (.int .i64 0) ∧ PM w' mb gb n (fill c k) ∧ KB gb w3 w') := hwr
      have HR3 : Hid _ := hR
      have HB3 : Hid (Below w.heap.size w w3) := HB1.out.trans (hB.mono hs1)
      clear hwr hrep hP3 hR hB hk hlt HP HB1
      go_wp2_with fail
      refine Calls.mono HWR.out ?_
      rintro e w4 ⟨rfl, hP4, hK4⟩
      have har4 : AR w4 w1.heap.size (fill c k) := (hK4.2 _ hlt3 (by omega)).trans HR3.out
      have HB4 : Hid (Below w.heap.size w w4) := HB3.out.trans (hK4.bel hgb)
      have hs4 := hK4.1.size
      clear HWR hK4 HR3 HB3
      generalize k = N at *
      by_cases h8 : a % 8 = 0 ∧ a < N
      · have hw8 : wIn n a 8 = true := by unfold wIn; simp; have := HN.out; omega
        have hsw := setword_ok mb gb n a x (fill c N) w4 hP4 ha hx h8.1 hw8
        have HSW : Hid _ := hsw
        have HR4 : Hid _ := har4
        have h8I : (a : Int) % 8 = 0 := by omega
        have haN : (a : Int) < (N : Int) := by omega
        have hlt4 := row_lt har4
        have haN8 : a + 8 ≤ N := by omega
        clear hsw hP4 har4 h8 hw8
        go_wp2_with fail
        refine Calls.mono HSW.out ?_
        rintro e w5 ⟨rfl, hP5, hK5⟩
        have HR5 : Hid (AR w5 w1.heap.size (splice (fill c N) a ((W1.le 8 x).take 0))) := by
          show AR _ _ _
          rw [List.take_zero, splice_nil]; exact (hK5.2 _ hlt4 (by omega)).trans HR4.out
        have HP5 : Hid _ := hP5
        have HB5 : Hid (Below w.heap.size w w5) := HB4.out.trans (hK5.bel hgb)
        have hs5 := hK5.1.size
        clear hP5 hK5 HSW HR4 HB4
        go_wp2
        clear h8I haN
        go_loopw [13] (fun i wr => ∃ k : Nat, k ≤ 8 ∧ i = .int .i64 k ∧ AR wr w1.heap.size (splice (fill c N) a ((W1.le 8 x).take k)) ∧ KB w1.heap.size w5 wr) (fun i _ => 8 - (intOf i).toNat)
        case atStart => exact ⟨0, Nat.zero_le _, rfl, HR5.out, KB.refl _ _⟩
        case round =>
          clear HR5
          obtain ⟨k, hk, rfl, hR, hB⟩ := hrel
          have hl8 : (W1.le 8 x).length = 8 := W1.le_length 8 x
          by_cases hlt : k < 8
          · have hl : (splice (fill c N) a ((W1.le 8 x).take k)).length = N := by rw [splice_len _ _ _ (by rw [List.length_take, hl8, hfl]; omega), hfl]
            obtain ⟨u0, hce⟩ := hR.cell (a + k) (by omega)
            have hfz := hR.frozen (a + k)
            have HST : Hid _ := AR.step (fill c N) a (W1.le 8 x) k _ hR (by rw [hfl, hl8]; omega) (W1.le_get 8 x k hlt)
            have HBB : Hid (KB w1.heap.size w5 wr) := hB
            have HSH : Hid _ := W1.shr_byte k x hx
            clear hR hB hl hl8
            go_wp2
            go_roundw
            case rel =>
              refine ⟨k + 1, by omega, by go_num, ?_, HBB.out.setCell _⟩
              have h := HST.out
              unfold B8 at h
              rw [← HSH.out, IntKind.wrap_u8] at h
              exact h
            case measure => simp [intOf]; omega
          · have hke : k = 8 := by omega
            subst hke
            rw [List.take_of_length_le (by omega)] at hR
            generalize wr = w5b at *
            have HPT : Hid (PM w5b mb gb n (splice (fill c N) a (W1.le 8 x))) := HP5.out.kb hB (by omega) (by omega)
            have HRT : Hid _ := hR
            have HBT : Hid (Below w.heap.size w w5b) := HB5.out.trans (hB.bel hs1)
            clear hR hB hk hlt hl8
            -- w5b the world, splice (fill c N) a (W1.le 8 x) the bytes, HPT and HRT and HBT what is known of them
            have hL2 : (splice (fill c N) a (W1.le 8 x)).length = N := HPT.out.len.trans HN.out.symm
            have HRD : Hid (Calls Try.prog 16 #[.pointer (some ⟨mb, 0, none⟩), .int .u64 0, .int .i64 (N : Int)] w5b fun e w' => e = .returned (.tuple #[.slice (some ⟨w5b.heap.size, 0, none⟩) N N, .int .i64 0]) ∧ w'.heap[w5b.heap.size]? = some (.cells ((rdB (splice (fill c N) a (W1.le 8 x)) 0 N).map B8).toArray 5 (0, 0)) ∧ Below w5b.heap.size w5b w') := read_ok mb gb n n 0 N _ w5b HPT.out.pr (by omega) (by omega) (by rw [HN.out]; unfold wIn; simp; omega)
            have HRE : Hid (rdB (splice (fill c N) a (W1.le 8 x)) 0 N = splice (fill c N) a (W1.le 8 x)) := by show _ = _; unfold rdB; rw [List.drop_zero, List.take_of_length_le (by omega)]
            go_wp2_with fail
            refine Calls.mono HRD.out ?_
            rintro e w6 ⟨rfl, hrow, hb6⟩
            rw [HRE.out] at hrow
            have har6 : AR w6 w1.heap.size (splice (fill c N) a (W1.le 8 x)) := (hb6.block _ (row_lt HRT.out)).trans HRT.out
            have hcv1 := conv_hb w6 (.slice (some ⟨w5b.heap.size, 0, none⟩) N N) (splice (fill c N) a (W1.le 8 x)) (AR.hb hrow hL2.symm (by omega))
            have hcv2 := conv_hb w6 (.slice (some ⟨w1.heap.size, 0, none⟩) N N) (splice (fill c N) a (W1.le 8 x)) (AR.hb har6 hL2.symm (by omega))
            have HB6 : Hid (Below w.heap.size w w6) := HBT.out.trans (hb6.mono HBT.out.size)
            have HKN : Hid _ := known_any w6
            generalize txt (splice (fill c N) a (W1.le 8 x)) = TX at *
            clear hrow hb6 har6 HRD HRE hL2
            go_wp2_with fail
            refine Calls.mono HKN.out ?_
            rintro e w7 ⟨rfl, hb7⟩
            have HB7 : Hid (Below w.heap.size w w7) := HB6.out.trans (hb7.mono HB6.out.size)
            clear hb7
            go_wp2
            go_ret
            exact ⟨rfl, HB7.out⟩
      · have hcF : wF n a ≠ 0 := by
          unfold wF
          by_cases h0 : a % 8 = 0
          · rw [if_pos h0, if_neg]
            · omega
            · unfold wIn; simp; have := HN.out; omega
          · rw [if_neg h0]; omega
        obtain ⟨cf, hcf⟩ : ∃ cf, cf = wF n a := ⟨_, rfl⟩
        have hsw := setword_bad (.pointer (some ⟨mb, 0, none⟩)) (a : Int) (x : Int) (wF n a) w4 hcF (wfault_any mb n n _ a w4 hP4.cell h1 (by omega) ha)
        rw [← hcf] at hsw hcF
        have HSW : Hid _ := hsw
        have HPT : Hid _ := hP4
        have HRT : Hid _ := har4
        have HBT : Hid _ := HB4.out
        have h8I : ¬ ((a : Int) % 8 = 0 ∧ (a : Int) < (N : Int)) := by omega
        clear hsw hP4 har4 hcf HB4 h8
        go_wp2_with fail
        refine Calls.mono HSW.out ?_
        rintro e w5 ⟨rfl, rfl⟩
        clear HSW
        by_cases h0 : (a : Int) % 8 = 0
        · have haN : ¬ (a : Int) < (N : Int) := fun h => h8I ⟨h0, h⟩
          clear h8I
          -- w4 the world, fill c N the bytes, HPT and HRT and HBT what is known of them
          have hL2 : (fill c N).length = N := HPT.out.len.trans HN.out.symm
          have HRD : Hid (Calls Try.prog 16 #[.pointer (some ⟨mb, 0, none⟩), .int .u64 0, .int .i64 (N : Int)] w4 fun e w' => e = .returned (.tuple #[.slice (some ⟨w4.heap.size, 0, none⟩) N N, .int .i64 0]) ∧ w'.heap[w4.heap.size]? = some (.cells ((rdB (fill c N) 0 N).map B8).toArray 5 (0, 0)) ∧ Below w4.heap.size w4 w') := read_ok mb gb n n 0 N _ w4 HPT.out.pr (by omega) (by omega) (by rw [HN.out]; unfold wIn; simp; omega)
          have HRE : Hid (rdB (fill c N) 0 N = fill c N) := by show _ = _; unfold rdB; rw [List.drop_zero, List.take_of_length_le (by omega)]
          go_wp2_with fail
          refine Calls.mono HRD.out ?_
          rintro e w6 ⟨rfl, hrow, hb6⟩
          rw [HRE.out] at hrow
          have har6 : AR w6 w1.heap.size (fill c N) := (hb6.block _ (row_lt HRT.out)).trans HRT.out
          have hcv1 := conv_hb w6 (.slice (some ⟨w4.heap.size, 0, none⟩) N N) (fill c N) (AR.hb hrow hL2.symm (by omega))
          have hcv2 := conv_hb w6 (.slice (some ⟨w1.heap.size, 0, none⟩) N N) (fill c N) (AR.hb har6 hL2.symm (by omega))
          have HB6 : Hid (Below w.heap.size w w6) := HBT.out.trans (hb6.mono HBT.out.size)
          have HKN : Hid _ := known_any w6
          generalize txt (fill c N) = TX at *
          clear hrow hb6 har6 HRD HRE hL2
          go_wp2_with fail
          refine Calls.mono HKN.out ?_
          rintro e w7 ⟨rfl, hb7⟩
          have HB7 : Hid (Below w.heap.size w w7) := HB6.out.trans (hb7.mono HB6.out.size)
          clear hb7
          go_wp2
          go_ret
          exact ⟨rfl, HB7.out⟩
        · clear h8I
          -- w4 the world, fill c N the bytes, HPT and HRT and HBT what is known of them
          have hL2 : (fill c N).length = N := HPT.out.len.trans HN.out.symm
          have HRD : Hid (Calls Try.prog 16 #[.pointer (some ⟨mb, 0, none⟩), .int .u64 0, .int .i64 (N : Int)] w4 fun e w' => e = .returned (.tuple #[.slice (some ⟨w4.heap.size, 0, none⟩) N N, .int .i64 0]) ∧ w'.heap[w4.heap.size]? = some (.cells ((rdB (fill c N) 0 N).map B8).toArray 5 (0, 0)) ∧ Below w4.heap.size w4 w') := read_ok mb gb n n 0 N _ w4 HPT.out.pr (by omega) (by omega) (by rw [HN.out]; unfold wIn; simp; omega)
          have HRE : Hid (rdB (fill c N) 0 N = fill c N) := by show _ = _; unfold rdB; rw [List.drop_zero, List.take_of_length_le (by omega)]
          go_wp2_with fail
          refine Calls.mono HRD.out ?_
          rintro e w6 ⟨rfl, hrow, hb6⟩
          rw [HRE.out] at hrow
          have har6 : AR w6 w1.heap.size (fill c N) := (hb6.block _ (row_lt HRT.out)).trans HRT.out
          have hcv1 := conv_hb w6 (.slice (some ⟨w4.heap.size, 0, none⟩) N N) (fill c N) (AR.hb hrow hL2.symm (by omega))
          have hcv2 := conv_hb w6 (.slice (some ⟨w1.heap.size, 0, none⟩) N N) (fill c N) (AR.hb har6 hL2.symm (by omega))
          have HB6 : Hid (Below w.heap.size w w6) := HBT.out.trans (hb6.mono HBT.out.size)
          have HKN : Hid _ := known_any w6
          generalize txt (fill c N) = TX at *
          clear hrow hb6 har6 HRD HRE hL2
          go_wp2_with fail
          refine Calls.mono HKN.out ?_
          rintro e w7 ⟨rfl, hb7⟩
          have HB7 : Hid (Below w.heap.size w w7) := HB6.out.trans (hb7.mono HB6.out.size)
          clear hb7
          go_wp2
          go_ret
          exact ⟨rfl, HB7.out⟩
end Go.Proofs.Ytikchlmfklbojaa.MC
