/- Several texts in one. -/
import Derived.Test.YtbmmibmfjhehhaaGreatAz
import Derived.Deep.RegionWith
set_option linter.unusedVariables false
set_option linter.unusedSimpArgs false
/- Contract of ref 4's Expand. -/
namespace Go.Proofs.YtbmmibmfjhehhaaGreat.AE
open Go.RowKit

theorem zero44 (w : World) : (zeroValue 126).run Tryz.prog w = .ok (.agg ((List.replicate 176 (0 : UInt8)).map B8).toArray) w := by kernel_rfl

def XP (w : World) (KA TA ZA : Array Value) (F : List UInt8) (k : Nat) (wr : World) : Prop :=
  wr.heap[w.heap.size]? = some (.cells KA 86 (0, 0)) ∧ wr.heap[w.heap.size + 1]? = some (.cells TA 109 (0, 0)) ∧ wr.heap[w.heap.size + 1 + 1]? = some (.cells ZA 111 (0, 0)) ∧ wr.heap[w.heap.size + 1 + 1 + 1]? = some (.cells ((bpart 176 F k).map B8).toArray 126 (0, 0)) ∧ Below w.heap.size w wr ∧ w.heap.size + 4 ≤ wr.heap.size
theorem XP.drew {w : World} {KA TA ZA : Array Value} {F : List UInt8} {k : Nat} {wr : World} (h : XP w KA TA ZA F k wr) : XP w KA TA ZA F k wr.drew := by
  unfold XP at *
  rw [heap_drew]
  exact ⟨h.1, h.2.1, h.2.2.1, h.2.2.2.1, h.2.2.2.2.1.drew, h.2.2.2.2.2⟩
theorem XP.below {w : World} {KA TA ZA : Array Value} {F : List UInt8} {k B : Nat} {a b : World} (h : XP w KA TA ZA F k a) (hb : Below B a b) (hB : w.heap.size + 4 ≤ B) : XP w KA TA ZA F k b := by
  obtain ⟨h1, h2, h3, h4, h5, h6⟩ := h
  exact ⟨(hb.block _ (by omega)).trans h1, (hb.block _ (by omega)).trans h2, (hb.block _ (by omega)).trans h3, (hb.block _ (by omega)).trans h4, h5.trans (hb.mono (by omega)), by have := hb.size; omega⟩
theorem XP.set {w : World} {KA TA ZA : Array Value} {F : List UInt8} {k : Nat} {wr : World} (h : XP w KA TA ZA F k wr) (hF : F.length = 176) (hk : k < 176) :
    XP w KA TA ZA F (k + 1) (wr.setCell ⟨w.heap.size + 1 + 1 + 1, k, none⟩ (B8 (F.getD k 0))) := by
  obtain ⟨h1, h2, h3, h4, h5, h6⟩ := h
  have hb := (Below.refl (w.heap.size + 1 + 1 + 1) wr).setCell (p := ⟨w.heap.size + 1 + 1 + 1, k, none⟩) (Nat.le_refl _) (B8 (F.getD k 0))
  refine ⟨(hb.block _ (by omega)).trans h1, (hb.block _ (by omega)).trans h2, (hb.block _ (by omega)).trans h3, ?_, h5.setCell (p := ⟨w.heap.size + 1 + 1 + 1, k, none⟩) (by show w.heap.size ≤ w.heap.size + 1 + 1 + 1; omega) _, by simpa using h6⟩
  rw [← bpart_set 176 F k hF hk]; exact heap_setCell_same _ (w.heap.size + 1 + 1 + 1) k _ 126 _ h4

def XT (w : World) (KA TA ZA : Array Value) (F : List UInt8) (b : Nat) (m : List UInt8) (k : Nat) (wr : World) : Prop :=
  XP w KA TA ZA F k wr ∧ wr.heap[b]? = some (.cells (m.map B8).toArray 125 (0, 0))
theorem XT.drew {w : World} {KA TA ZA : Array Value} {F : List UInt8} {b : Nat} {m : List UInt8} {k : Nat} {wr : World} (h : XT w KA TA ZA F b m k wr) : XT w KA TA ZA F b m k wr.drew := ⟨h.1.drew, by rw [heap_drew]; exact h.2⟩
theorem XT.set {w : World} {KA TA ZA : Array Value} {F : List UInt8} {b : Nat} {m : List UInt8} {k : Nat} {wr : World} (h : XT w KA TA ZA F b m k wr) (hF : F.length = 176) (hk : k < 176) (hb : w.heap.size + 4 ≤ b) (x : UInt8) (hx : F.getD k 0 = x) :
    XT w KA TA ZA F b m (k + 1) (wr.setCell ⟨w.heap.size + 1 + 1 + 1, k, none⟩ (.int .u8 (x.toNat : Int))) := by
  refine ⟨by rw [← hx]; exact h.1.set hF hk, ?_⟩
  rw [heap_setCell_other _ _ _ _ (by show b ≠ w.heap.size + 1 + 1 + 1; omega)]; exact h.2

def XO (w : World) (KA TA ZA : Array Value) (F : List UInt8) (g : Nat) (k : Nat) (wr : World) : Prop :=
  XP w KA TA ZA F 176 wr ∧ wr.heap[g]? = some (.cells ((bpart 176 F k).map B8).toArray 111 (0, 0))
theorem XO.drew {w : World} {KA TA ZA : Array Value} {F : List UInt8} {b k : Nat} {wr : World} (h : XO w KA TA ZA F b k wr) : XO w KA TA ZA F b k wr.drew := ⟨h.1.drew, by rw [heap_drew]; exact h.2⟩
theorem XO.set {w : World} {KA TA ZA : Array Value} {F : List UInt8} {b k : Nat} {wr : World} (h : XO w KA TA ZA F b k wr) (hF : F.length = 176) (hk : k < 176) (hb : w.heap.size + 4 ≤ b) :
    XO w KA TA ZA F b (k + 1) (wr.setCell ⟨b, k, none⟩ (B8 (F.getD k 0))) := by
  refine ⟨h.1.below ((Below.refl b wr).setCell (p := ⟨b, k, none⟩) (Nat.le_refl _) _) hb, ?_⟩
  rw [← bpart_set 176 F k hF hk]; exact heap_setCell_same _ b k _ 111 _ h.2

def NrmH (e : Exit) (p : Prop) : Prop := match e with
  | .normal => p
  | _ => False
theorem NrmH.out {e : Exit} {p : Prop} (h : NrmH e p) : e = .normal ∧ p := by
  cases e <;> first | exact ⟨rfl, h⟩ | exact False.elim h

theorem wp_cut {P : Program} {c : Code} {Q : Exit → Act → World → Prop} {a : Act} {w : World} (A : Act) (X : World) (h : c.wp P (fun e a x => NrmH e (a = A ∧ x = X)) a w) (k : Q .normal A X) : c.wp P Q a w :=
  Code.wp_mono (fun e a w h => by obtain ⟨rfl, rfl, rfl⟩ := h.out; exact k) h



def wdA (F : List UInt8) (i : Nat) : List UInt8 := [F.getD (i * 4) 0, F.getD (i * 4 + 1) 0, F.getD (i * 4 + 2) 0, F.getD (i * 4 + 3) 0]
theorem XP.cell {w : World} {KA TA ZA : Array Value} {F : List UInt8} {k : Nat} {wr : World} (h : XP w KA TA ZA F k wr) (hF : F.length = 176) (hk : k ≤ 176) (j : Nat) (hj : j < k) :
    wr.cell? ⟨w.heap.size + 1 + 1 + 1, j, none⟩ = some (.int .u8 ((F.getD j 0).toNat : Int)) := by
  rw [cell_of_row _ _ j _ _ _ h.2.2.2.1, row_get _ 176 (bpart_len 176 F k hF hk) _ (by omega), bpart_old 176 F k j hF hk hj]
theorem XP.word {w : World} {KA TA ZA : Array Value} {F : List UInt8} {v : Nat} {wr : World} (h : XP w KA TA ZA F (v * 4) wr) (hF : F.length = 176) (h1 : 1 ≤ v) (h2 : v ≤ 44) :
    wr.rangeAt (w.heap.size + 1 + 1 + 1) ((v - 1) * 4) ((wdA F (v - 1)).map B8) := fun j u hu => by
  have hj : j < 4 := by
    have := (List.getElem?_eq_some_iff.1 hu).1
    simpa [wdA] using this
  rw [h.cell hF (by omega) ((v - 1) * 4 + j) (by omega)]
  obtain rfl | rfl | rfl | rfl : j = 0 ∨ j = 1 ∨ j = 2 ∨ j = 3 := by omega
  all_goals exact hu

set_option maxHeartbeats 20000000 in
set_option maxRecDepth 100000 in
theorem expand_any (key t : List UInt8) (w : World) (hk : key.length = 16) (ht : t.length = 256) :
    Calls Tryz.prog 60 #[.agg (key.map B8).toArray, .agg (t.map B8).toArray] w fun e w' => e = .returned (.agg ((exA key t).map B8).toArray) ∧ Below w.heap.size w w' := by
  have HFL : Hid _ := exA_len key t hk
  have HFK : Hid _ := fun j hj => exA_key key t j hk hj
  have HFS : Hid _ := fun n k hn hk' => exA_step key t n k hk hn hk'
  generalize exA key t = F at *
  obtain ⟨KA, hKA⟩ : ∃ KA, KA = (key.map B8).toArray := ⟨_, rfl⟩
  obtain ⟨TA, hTA⟩ : ∃ TA, TA = (t.map B8).toArray := ⟨_, rfl⟩
  rw [← hKA, ← hTA]
  have hzv := fun W => zero44 W
  have hyv := fun W => zero11 W
  have hz0 : bpart 176 F 0 = List.replicate 176 0 := by unfold bpart; rw [List.take_zero, List.nil_append]
  rw [← hz0] at hzv hyv
  obtain ⟨ZA, hZA⟩ : ∃ ZA, ZA = ((bpart 176 F 0).map B8).toArray := ⟨_, rfl⟩
  rw [← hZA] at hzv hyv
  have HKA : Hid _ := hKA
  have HTA : Hid _ := hTA
  have HZA : Hid _ := hZA
  have HKL : Hid _ := hk
  have HTL : Hid _ := ht
  clear hKA hTA hZA hz0 hk ht
  go_enter Tryz.func60, Tryz.ntmps60
  go_wp2
  go_loopw [6] (fun i wr => ∃ c : Nat, c ≤ 4 ∧ i = .int .i64 c ∧ XP w KA TA ZA F (c * 4) wr) (fun i _ => 4 - (intOf i).toNat)
  case atStart => exact ⟨0, by omega, rfl, by repeat (first | exact heap_at _ _ _ (by simp) | rw [Below.heap_alloc _ _ _ (by first | (simp; done) | (simp; omega))]), by repeat (first | exact heap_at _ _ _ (by simp) | rw [Below.heap_alloc _ _ _ (by first | (simp; done) | (simp; omega))]), by repeat (first | exact heap_at _ _ _ (by simp) | rw [Below.heap_alloc _ _ _ (by first | (simp; done) | (simp; omega))]), by rw [Nat.zero_mul, ← HZA.out]; exact heap_at _ _ _ (by simp), ((((Below.refl _ _).alloc (Nat.le_refl _) _).alloc (by simp) _).alloc (by simp; omega) _).alloc (by simp; omega) _, by simp⟩
  case round =>
    obtain ⟨c, hc, rfl, hM⟩ := hrel
    by_cases hlc : c < 4
    · have hcI : (c : Int) < 4 := by omega
      have hcJ : (c : Int) < 44 := by omega
      have HM0 : Hid (XP w KA TA ZA F (c * 4) wr) := hM
      clear hM
      go_wp2
      go_loopw [7] (fun i wr => ∃ r : Nat, r ≤ 4 ∧ i = .int .i64 r ∧ XP w KA TA ZA F (c * 4 + r) wr) (fun i _ => 4 - (intOf i).toNat)
      case atStart => exact ⟨0, by omega, rfl, HM0.out⟩
      case round =>
        clear HM0
        obtain ⟨r, hr, rfl, hM⟩ := hrel
        by_cases hlr : r < 4
        · have hrI : (r : Int) < 4 := by omega
          have HS : Hid (XP w KA TA ZA F (c * 4 + r + 1) (wr.setCell ⟨w.heap.size + 1 + 1 + 1, c * 4 + r, none⟩ (.int .u8 (((F.getD (c * 4 + r) 0).toNat : Nat) : Int)))) := XP.set hM HFL.out (by omega)
          obtain ⟨h1, h2, h3, h4, h5, h6⟩ := hM
          have g1 := cell_of_row _ _ (4 * c + r) _ _ _ h1
          rw [HKA.out, row_get key 16 HKL.out _ (by omega), ← HFK.out _ (by omega), show 4 * c + r = c * 4 + r by omega] at g1
          obtain ⟨u, hu⟩ := bpart_cell' 176 F (c * 4 + r) HFL.out (by omega)
          have g4 := cell_of_row _ _ (c * 4 + r) _ _ _ h4
          rw [hu] at g4
          have g5 := frozen_of_row _ _ (c * 4 + r) _ _ h4
          have q0 : IntKind.i64.wrap (4 * (c : Int)) = 4 * (c : Int) := wrap_i64_7 _ (by omega) (by omega)
          have q1 : IntKind.i64.wrap (4 * (c : Int) + r) = 4 * (c : Int) + r := wrap_i64_7 _ (by omega) (by omega)
          have t1 : (4 * (c : Int) + r).toNat = c * 4 + r := by omega
          have l1 : (0 : Int) ≤ 4 * (c : Int) + r ∧ 4 * (c : Int) + r < 16 := by omega
          generalize F.getD (c * 4 + r) 0 = x at *
          clear h1 h2 h3 h4 h5 h6 hu
          go_wp2
          go_region
          all_goals
            go_wp2
            go_roundw
            case rel => exact ⟨r + 1, by omega, by go_num, HS.out.drew⟩
            case measure => simp [intOf]; omega
        · have hr4 : r = 4 := by omega
          have hrI : ¬ (r : Int) < 4 := by omega
          have HM1 : Hid (XP w KA TA ZA F ((c + 1) * 4) wr) := by
            show XP _ _ _ _ _ _ _
            rw [hr4] at hM
            rw [show (c + 1) * 4 = c * 4 + 4 by omega]
            exact hM
          clear hM hr4
          go_wp2
          go_roundw
          case rel => exact ⟨c + 1, by omega, by go_num, HM1.out⟩
          case measure => simp [intOf]; omega
    · have hc4 : c = 4 := by omega
      have hcI : ¬ (c : Int) < 4 := by omega
      have HM1 : Hid (XP w KA TA ZA F (4 * 4) wr) := by
        show XP _ _ _ _ _ _ _
        rw [hc4] at hM
        exact hM
      clear hM hc4
      go_wp2
      go_loopw [8, 9] (fun p i wr => ∃ v : Nat, 4 ≤ v ∧ v ≤ 44 ∧ i = .int .i64 v ∧ p = .int .u8 (((pwA ((v - 1) / 4)).toNat : Nat) : Int) ∧ XP w KA TA ZA F (v * 4) wr) (fun _ i _ => 44 - (intOf i).toNat)
      case atStart => exact ⟨4, by omega, by omega, rfl, rfl, HM1.out⟩
      case round =>
        clear HM1
        obtain ⟨v, hv4, hv44, rfl, rfl, hM⟩ := hrel
        by_cases hlv : v < 44
        · have hvI : (v : Int) < 44 := by omega
          have HW : Hid (wr.rangeAt (w.heap.size + 1 + 1 + 1) ((v - 1) * 4) ((wdA F (v - 1)).map B8)) := hM.word HFL.out (by omega) (by omega)
          have HFT : Hid (∀ k, k < 4 → F.getD (v * 4 + k) 0 = F.getD ((v - 4) * 4 + k) 0 ^^^ (exT t F (v - 4)).getD k 0) := fun k hk => by
            have := HFS.out (v - 4) k (by omega) hk
            rw [show 16 + 4 * (v - 4) + k = v * 4 + k by omega, show 4 * (v - 4) + k = (v - 4) * 4 + k by omega] at this
            exact this
          obtain ⟨PL, hPL⟩ : ∃ PL, PL = (wdA F (v - 1)).map B8 := ⟨_, rfl⟩
          rw [← hPL] at HW
          have HIP : Hid ((Tryz.prog.info? 125).map (·.size) = some PL.length) := by show _ = _; rw [hPL, List.length_map]; kernel_rfl
          have HIQ : Hid ((Tryz.prog.info? 125).map (·.size) = some PL.toArray.size) := by show _ = _; rw [List.size_toArray]; exact HIP.out
          have HP1 : Hid (PL.toArray.all (·.oneCell') = true) := by show _ = _; rw [hPL]; exact B8_onea _
          have HP4 : Hid (PL.toArray.size = 4) := by show _ = _; rw [hPL]; rfl
          have HPL : Hid _ := hPL
          have q1 : IntKind.i64.wrap ((v : Int) - 1) = (v : Int) - 1 := wrap_i64_7 _ (by omega) (by omega)
          have t1 : ((v : Int) - 1).toNat = v - 1 := by omega
          have l1 : (0 : Int) ≤ (v : Int) - 1 ∧ (v : Int) - 1 < 44 := by omega
          have m1 : (1 : Int) ≤ (v : Int) := by omega
          obtain ⟨w2, hw2⟩ : ∃ w2, w2 = wr := ⟨_, rfl⟩
          subst hw2
          have HXP : Hid (XP w KA TA ZA F (v * 4) w2) := hM
          have hs2 : w.heap.size + 4 ≤ w2.heap.size := hM.2.2.2.2.2
          clear hM hPL
          have HB1 : Hid (XP w KA TA ZA F (v * 4) ((w2.alloc (.cells #[.int .u8 0, .int .u8 0, .int .u8 0, .int .u8 0] 125 (0, 0))).setRow w2.heap.size PL.toArray) ∧ ((w2.alloc (.cells #[.int .u8 0, .int .u8 0, .int .u8 0, .int .u8 0] 125 (0, 0))).setRow w2.heap.size PL.toArray).heap[w2.heap.size]? = some (.cells PL.toArray 125 (0, 0))) :=
            ⟨HXP.out.below (below_setRow ((Below.refl _ _).alloc (Nat.le_refl _) _) (Nat.le_refl _) _) hs2, setRow_heap _ _ _ _ _ _ (heap_at _ _ _ rfl)⟩
          have hb : w.heap.size + 4 ≤ w2.heap.size := hs2
          by_cases hv0 : v % 4 = 0
          · have hvz : ((v : Int) % 4 == 0) = true := by simp; omega
            go_wp2_with (first
              | (refine wpList_load_mid rfl 125 _ rfl (w.heap.size + 1 + 1 + 1) ((v - 1) * 4) rfl PL _ HW.out Tryz.underlying125 rfl HIP.out ?_)
              | (refine wpList_store_row rfl 125 _ _ rfl w2.heap.size PL.toArray rfl rfl 125 _ (heap_at _ _ _ rfl) HIQ.out (by rw [HP4.out]; rfl) HP1.out ?_))
            clear HW HXP HIP HIQ HP1
            have hrow := HB1.out.2
            have c0 := cell_of_row _ _ 0 _ _ _ hrow
            have c1 := cell_of_row _ _ 1 _ _ _ hrow
            have c2 := cell_of_row _ _ 2 _ _ _ hrow
            have c3 := cell_of_row _ _ 3 _ _ _ hrow
            have f0 := frozen_of_row _ _ 0 _ _ hrow
            have f1 := frozen_of_row _ _ 1 _ _ hrow
            have f2 := frozen_of_row _ _ 2 _ _ hrow
            have f3 := frozen_of_row _ _ 3 _ _ hrow
            have htab := HB1.out.1.2.1
            have hsub : ∀ x : UInt8, ((w2.alloc (.cells #[.int .u8 0, .int .u8 0, .int .u8 0, .int .u8 0] 125 (0, 0))).setRow w2.heap.size PL.toArray).cell? ⟨w.heap.size + 1, x.toNat, none⟩ = some (.int .u8 ((t.getD x.toNat 0).toNat : Int)) := fun x => by
              have hx := x.toNat_lt
              rw [cell_of_row _ _ x.toNat _ _ _ htab, HTA.out, row_get t 256 HTL.out _ (by omega)]
            rw [HPL.out] at c0 c1 c2 c3
            have e0 : ((wdA F (v - 1)).map B8).toArray[0]? = some (.int .u8 ((F.getD ((v - 1) * 4) 0).toNat : Int)) := rfl
            have e1 : ((wdA F (v - 1)).map B8).toArray[1]? = some (.int .u8 ((F.getD ((v - 1) * 4 + 1) 0).toNat : Int)) := rfl
            have e2 : ((wdA F (v - 1)).map B8).toArray[2]? = some (.int .u8 ((F.getD ((v - 1) * 4 + 2) 0).toNat : Int)) := rfl
            have e3 : ((wdA F (v - 1)).map B8).toArray[3]? = some (.int .u8 ((F.getD ((v - 1) * 4 + 3) 0).toNat : Int)) := rfl
            rw [e0] at c0
            rw [e1] at c1
            rw [e2] at c2
            rw [e3] at c3
            rw [← HPL.out] at c0 c1 c2 c3
            have s0 := hsub (F.getD ((v - 1) * 4) 0)
            have s1 := hsub (F.getD ((v - 1) * 4 + 1) 0)
            have s2 := hsub (F.getD ((v - 1) * 4 + 2) 0)
            have s3 := hsub (F.getD ((v - 1) * 4 + 3) 0)
            obtain ⟨M, hM⟩ : ∃ M, M = exT t F (v - 4) := ⟨_, rfl⟩
            have hMw : M = [t.getD (F.getD ((v - 1) * 4 + 1) 0).toNat 0 ^^^ pwA ((v - 1) / 4), t.getD (F.getD ((v - 1) * 4 + 2) 0).toNat 0, t.getD (F.getD ((v - 1) * 4 + 3) 0).toNat 0, t.getD (F.getD ((v - 1) * 4) 0).toNat 0] := by
              rw [hM]; unfold exT
              rw [if_pos (by omega), show 4 * (v - 4 + 3) = (v - 1) * 4 by omega, show (v - 4) / 4 = (v - 1) / 4 by omega]
            rw [← hM] at HFT
            have HML : Hid (M.length = 4) := by show _ = _; rw [hMw]; rfl
            have HPW : Hid (pwA ((v + 1 - 1) / 4) = tmA (pwA ((v - 1) / 4)) 2) := by show _ = _; rw [show (v + 1 - 1) / 4 = (v - 1) / 4 + 1 by omega]; rfl
            have htm := fun W => times_any (pwA ((v - 1) / 4)) 2 W
            have hx0 := (F.getD ((v - 1) * 4) 0).toNat_lt
            have hx1 := (F.getD ((v - 1) * 4 + 1) 0).toNat_lt
            have hx2 := (F.getD ((v - 1) * 4 + 2) 0).toNat_lt
            have hx3 := (F.getD ((v - 1) * 4 + 3) 0).toNat_lt
            have hxp := xor_u8' (t.getD (F.getD ((v - 1) * 4 + 1) 0).toNat 0) (pwA ((v - 1) / 4))
            have HBW : Hid (Below w2.heap.size w2 ((w2.alloc (.cells #[.int .u8 0, .int .u8 0, .int .u8 0, .int .u8 0] 125 (0, 0))).setRow w2.heap.size PL.toArray)) := below_setRow ((Below.refl _ _).alloc (Nat.le_refl _) _) (Nat.le_refl _) _
            have hsW : w2.heap.size < ((w2.alloc (.cells #[.int .u8 0, .int .u8 0, .int .u8 0, .int .u8 0] 125 (0, 0))).setRow w2.heap.size PL.toArray).heap.size := by simp
            clear hsub e0 e1 e2 e3 htab hrow hM
            have HTB : Hid (∀ x : UInt8, ∀ w', XP w KA TA ZA F (v * 4) w' → w'.cell? ⟨w.heap.size + 1, x.toNat, none⟩ = some (.int .u8 ((t.getD x.toNat 0).toNat : Int))) := fun x w' h => by
              have hx := x.toNat_lt
              rw [cell_of_row _ _ x.toNat _ _ _ h.2.1, HTA.out, row_get t 256 HTL.out _ (by omega)]
            have HT0 : Hid _ := HTB.out (F.getD ((v - 1) * 4) 0)
            have HT1 : Hid _ := HTB.out (F.getD ((v - 1) * 4 + 1) 0)
            have HT2 : Hid _ := HTB.out (F.getD ((v - 1) * 4 + 2) 0)
            have HT3 : Hid _ := HTB.out (F.getD ((v - 1) * 4 + 3) 0)
            clear HTB
            generalize F.getD ((v - 1) * 4) 0 = x0 at *
            generalize F.getD ((v - 1) * 4 + 1) 0 = x1 at *
            generalize F.getD ((v - 1) * 4 + 2) 0 = x2 at *
            generalize F.getD ((v - 1) * 4 + 3) 0 = x3 at *
            have k0 : (x0.toNat : Int) < 256 := by omega
            have k1 : (x1.toNat : Int) < 256 := by omega
            have k2 : (x2.toNat : Int) < 256 := by omega
            have k3 : (x3.toNat : Int) < 256 := by omega
            generalize t.getD x0.toNat 0 = y0 at *
            generalize t.getD x1.toNat 0 = y1 at *
            generalize t.getD x2.toNat 0 = y2 at *
            generalize t.getD x3.toNat 0 = y3 at *
            have HMW : Hid _ := hMw
            clear hMw hx0 hx1 hx2 hx3 HBW
            generalize ((w2.alloc (.cells #[.int .u8 0, .int .u8 0, .int .u8 0, .int .u8 0] 125 (0, 0))).setRow w2.heap.size PL.toArray) = W at *
            generalize w2.heap.size = b at *
            --A--
            have hxp2 : bits .xor .u8 (y1.toNat : Int) ((pwA ((v - 1) / 4)).toNat : Int) = (((y1 ^^^ pwA ((v - 1) / 4)).toNat : Nat) : Int) := hxp
            generalize pwA ((v - 1) / 4) = pq at *
            generalize y1 ^^^ pq = z1 at *
            clear hxp2
            obtain ⟨MA, hMA⟩ : ∃ A : Array Value, A = #[.int .u8 (z1.toNat : Int), .int .u8 (y2.toNat : Int), .int .u8 (y3.toNat : Int), .int .u8 (y0.toNat : Int)] := ⟨_, rfl⟩
            have HMM : Hid (MA = (M.map B8).toArray) := by show _ = _; rw [HMW.out, hMA]; rfl
            have HMA1 : Hid (MA.all (·.oneCell') = true) := by show _ = _; rw [HMM.out]; exact B8_onea _
            have HMA4 : Hid (MA.size = 4) := by show _ = _; rw [hMA]; rfl
            have HMAI : Hid _ := info4 MA HMA4.out
            have HMAe : Hid _ := hMA
            have HXP0 : Hid (XP w KA TA ZA F (v * 4) W.drew) := HB1.out.1.drew
            have HROW : Hid (W.drew.heap[b]? = some (.cells PL.toArray 125 (0, 0))) := HB1.out.2
            have c0' : W.drew.cell? ⟨b, 0, none⟩ = _ := c0
            have c1' : W.drew.cell? ⟨b, 1, none⟩ = _ := c1
            have c2' : W.drew.cell? ⟨b, 2, none⟩ = _ := c2
            have c3' : W.drew.cell? ⟨b, 3, none⟩ = _ := c3
            clear hMA c0 c1 c2 c3 f0 f1 f2 f3 s0 s1 s2 s3 HB1 hsW HMW
            generalize hV : W.drew = V at *
            apply wp_cut
            case h =>
              refine wp_region_held_drew (S := XP w KA TA ZA F (v * 4)) (by kernel_rfl) (by rw [hV]; exact HXP0.out) (fun hHeld => ?_)
              rw [hV] at hHeld ⊢
              refine wpAnyH_take (i := 0) (oi := ⟨some 44, .indexAddr 125 (.tmp 10) (.const (Go.Value.int Go.IntKind.i64 1)), 0, _, #[], none⟩) (v := .pointer (some ⟨b, 1, none⟩)) rfl (by kernel_rfl) (by kernel_rfl) (by kernel_rfl) (fun _ _ _ h => h) (Or.inl ⟨by rfl, fun w' hw' => ?_⟩) hHeld ?_
              · first | (go_simp; done) | (go_simp; rfl)
              try simp only [Act.put, qT, q0, qS]
              refine wpAnyH_take (i := 6) (oi := ⟨some 50, .indexAddr 125 (.tmp 10) (.const (Go.Value.int Go.IntKind.i64 2)), 0, _, #[], none⟩) (v := .pointer (some ⟨b, 2, none⟩)) rfl (by kernel_rfl) (by kernel_rfl) (by kernel_rfl) (fun _ _ _ h => h) (Or.inl ⟨by rfl, fun w' hw' => ?_⟩) hHeld ?_
              · first | (go_simp; done) | (go_simp; rfl)
              try simp only [Act.put, qT, q0, qS]
              refine wpAnyH_take (i := 10) (oi := ⟨some 54, .indexAddr 125 (.tmp 10) (.const (Go.Value.int Go.IntKind.i64 3)), 0, _, #[], none⟩) (v := .pointer (some ⟨b, 3, none⟩)) rfl (by kernel_rfl) (by kernel_rfl) (by kernel_rfl) (fun _ _ _ h => h) (Or.inl ⟨by rfl, fun w' hw' => ?_⟩) hHeld ?_
              · first | (go_simp; done) | (go_simp; rfl)
              try simp only [Act.put, qT, q0, qS]
              refine wpAnyH_take (i := 14) (oi := ⟨some 58, .indexAddr 125 (.tmp 10) (.const (Go.Value.int Go.IntKind.i64 0)), 0, _, #[], none⟩) (v := .pointer (some ⟨b, 0, none⟩)) rfl (by kernel_rfl) (by kernel_rfl) (by kernel_rfl) (fun _ _ _ h => h) (Or.inl ⟨by rfl, fun w' hw' => ?_⟩) hHeld ?_
              · first | (go_simp; done) | (go_simp; rfl)
              try simp only [Act.put, qT, q0, qS]
              refine wpAnyH_take (i := 4) (oi := ⟨some 48, .move (.tmp 8), 5, _, #[], none⟩) (v := .int .u8 (pq.toNat : Int)) rfl (by kernel_rfl) (by kernel_rfl) (by kernel_rfl) (fun _ _ _ h => h) (Or.inl ⟨by rfl, fun w' hw' => ?_⟩) hHeld ?_
              · first | (go_simp; done) | (go_simp; rfl)
              try simp only [Act.put, qT, q0, qS]
              refine wpAnyH_ready (rs := [1, 7, 11, 15]) (by kernel_rfl) (by simp) ?_
              refine AllReadyH.cons (o := ⟨some 45, .load 5 (.tmp 44), 5, _, #[⟨0, .data⟩], none⟩) rfl (fun K hK => ?_) (AllReadyH.cons (o := ⟨some 51, .load 5 (.tmp 50), 5, _, #[⟨6, .data⟩], none⟩) rfl (fun K hK => ?_) (AllReadyH.cons (o := ⟨some 55, .load 5 (.tmp 54), 5, _, #[⟨10, .data⟩], none⟩) rfl (fun K hK => ?_) (AllReadyH.cons (o := ⟨some 59, .load 5 (.tmp 58), 5, _, #[⟨14, .data⟩], none⟩) rfl (fun K hK => ?_) AllReadyH.nil)))
              all_goals rw [if_pos (by rfl)]
              · go_wp2_with fail
                refine hK.out _ _ hHeld (fun _ => ?_)
                clear hK K
                try simp only [Act.put, qT, q0, qS]
                refine wpAnyH_take (i := 2) (oi := ⟨some 46, .indexAddr 109 (.tmp 3) (.tmp 45), 0, _, #[⟨1, .data⟩], none⟩) (v := .pointer (some ⟨w.heap.size + 1, x1.toNat, none⟩)) rfl (by kernel_rfl) (by kernel_rfl) (by kernel_rfl) (fun _ _ _ h => h) (Or.inl ⟨by rfl, fun w' hw' => ?_⟩) hHeld ?_
                · first | (go_simp; done) | (go_simp; rfl)
                try simp only [Act.put, qT, q0, qS]
                refine wpAnyH_take (i := 3) (oi := ⟨some 47, .load 5 (.tmp 46), 5, _, #[⟨2, .data⟩], none⟩) (v := .int .u8 (y1.toNat : Int)) rfl (by kernel_rfl) (by kernel_rfl) (by kernel_rfl) (fun _ _ _ h => h) (Or.inl ⟨by rfl, fun w' hw' => ?_⟩) hHeld ?_
                · have hcc := HT1.out w' hw'; first | (go_simp; done) | (go_simp; rfl)
                try simp only [Act.put, qT, q0, qS]
                refine wpAnyH_take (i := 5) (oi := ⟨some 49, .binOp .xor 5 (.tmp 47) (.tmp 48) 5, 5, _, #[⟨3, .data⟩, ⟨4, .data⟩], none⟩) (v := .int .u8 (z1.toNat : Int)) rfl (by kernel_rfl) (by kernel_rfl) (by kernel_rfl) (fun _ _ _ h => h) (Or.inl ⟨by rfl, fun w' hw' => ?_⟩) hHeld ?_
                · first | (go_simp; done) | (go_simp; rfl)
                try simp only [Act.put, qT, q0, qS]
                refine wpAnyH_ready (rs := [7, 11, 15]) (by kernel_rfl) (by simp) ?_
                refine AllReadyH.cons (o := ⟨some 51, .load 5 (.tmp 50), 5, _, #[⟨6, .data⟩], none⟩) rfl (fun K hK => ?_) (AllReadyH.cons (o := ⟨some 55, .load 5 (.tmp 54), 5, _, #[⟨10, .data⟩], none⟩) rfl (fun K hK => ?_) (AllReadyH.cons (o := ⟨some 59, .load 5 (.tmp 58), 5, _, #[⟨14, .data⟩], none⟩) rfl (fun K hK => ?_) AllReadyH.nil))
                all_goals rw [if_pos (by rfl)]
                · go_wp2_with fail
                  refine hK.out _ _ hHeld (fun _ => ?_)
                  clear hK K
                  try simp only [Act.put, qT, q0, qS]
                  refine wpAnyH_take (i := 8) (oi := ⟨some 52, .indexAddr 109 (.tmp 3) (.tmp 51), 0, _, #[⟨7, .data⟩], none⟩) (v := .pointer (some ⟨w.heap.size + 1, x2.toNat, none⟩)) rfl (by kernel_rfl) (by kernel_rfl) (by kernel_rfl) (fun _ _ _ h => h) (Or.inl ⟨by rfl, fun w' hw' => ?_⟩) hHeld ?_
                  · first | (go_simp; done) | (go_simp; rfl)
                  try simp only [Act.put, qT, q0, qS]
                  refine wpAnyH_take (i := 9) (oi := ⟨some 53, .load 5 (.tmp 52), 5, _, #[⟨8, .data⟩], none⟩) (v := .int .u8 (y2.toNat : Int)) rfl (by kernel_rfl) (by kernel_rfl) (by kernel_rfl) (fun _ _ _ h => h) (Or.inl ⟨by rfl, fun w' hw' => ?_⟩) hHeld ?_
                  · have hcc := HT2.out w' hw'; first | (go_simp; done) | (go_simp; rfl)
                  try simp only [Act.put, qT, q0, qS]
                  refine wpAnyH_ready (rs := [11, 15]) (by kernel_rfl) (by simp) ?_
                  refine AllReadyH.cons (o := ⟨some 55, .load 5 (.tmp 54), 5, _, #[⟨10, .data⟩], none⟩) rfl (fun K hK => ?_) (AllReadyH.cons (o := ⟨some 59, .load 5 (.tmp 58), 5, _, #[⟨14, .data⟩], none⟩) rfl (fun K hK => ?_) AllReadyH.nil)
                  all_goals rw [if_pos (by rfl)]
                  · go_wp2_with fail
                    refine hK.out _ _ hHeld (fun _ => ?_)
                    clear hK K
                    try simp only [Act.put, qT, q0, qS]
                    refine wpAnyH_take (i := 12) (oi := ⟨some 56, .indexAddr 109 (.tmp 3) (.tmp 55), 0, _, #[⟨11, .data⟩], none⟩) (v := .pointer (some ⟨w.heap.size + 1, x3.toNat, none⟩)) rfl (by kernel_rfl) (by kernel_rfl) (by kernel_rfl) (fun _ _ _ h => h) (Or.inl ⟨by rfl, fun w' hw' => ?_⟩) hHeld ?_
                    · first | (go_simp; done) | (go_simp; rfl)
                    try simp only [Act.put, qT, q0, qS]
                    refine wpAnyH_take (i := 13) (oi := ⟨some 57, .load 5 (.tmp 56), 5, _, #[⟨12, .data⟩], none⟩) (v := .int .u8 (y3.toNat : Int)) rfl (by kernel_rfl) (by kernel_rfl) (by kernel_rfl) (fun _ _ _ h => h) (Or.inl ⟨by rfl, fun w' hw' => ?_⟩) hHeld ?_
                    · have hcc := HT3.out w' hw'; first | (go_simp; done) | (go_simp; rfl)
                    try simp only [Act.put, qT, q0, qS]
                    refine wpAnyH_ready (rs := [15]) (by kernel_rfl) (by simp) ?_
                    refine AllReadyH.cons (o := ⟨some 59, .load 5 (.tmp 58), 5, _, #[⟨14, .data⟩], none⟩) rfl (fun K hK => ?_) AllReadyH.nil
                    rw [if_pos (by rfl)]
                    go_wp2_with fail
                    refine hK.out _ _ hHeld (fun _ => ?_)
                    clear hK K
                    try simp only [Act.put, qT, q0, qS]
                    refine wpAnyH_take (i := 16) (oi := ⟨some 60, .indexAddr 109 (.tmp 3) (.tmp 59), 0, _, #[⟨15, .data⟩], none⟩) (v := .pointer (some ⟨w.heap.size + 1, x0.toNat, none⟩)) rfl (by kernel_rfl) (by kernel_rfl) (by kernel_rfl) (fun _ _ _ h => h) (Or.inl ⟨by rfl, fun w' hw' => ?_⟩) hHeld ?_
                    · first | (go_simp; done) | (go_simp; rfl)
                    try simp only [Act.put, qT, q0, qS]
                    refine wpAnyH_take (i := 17) (oi := ⟨some 61, .load 5 (.tmp 60), 5, _, #[⟨16, .data⟩], none⟩) (v := .int .u8 (y0.toNat : Int)) rfl (by kernel_rfl) (by kernel_rfl) (by kernel_rfl) (fun _ _ _ h => h) (Or.inl ⟨by rfl, fun w' hw' => ?_⟩) hHeld ?_
                    · have hcc := HT0.out w' hw'; first | (go_simp; done) | (go_simp; rfl)
                    try simp only [Act.put, qT, q0, qS]
                    refine wpAnyH_take (i := 18) (oi := ⟨some 62, .build 125 #[(0, .tmp 49), (1, .tmp 53), (2, .tmp 57), (3, .tmp 61)], 125, _, #[⟨5, .data⟩, ⟨9, .data⟩, ⟨13, .data⟩, ⟨17, .data⟩], none⟩) (v := .agg #[.int .u8 (z1.toNat : Int), .int .u8 (y2.toNat : Int), .int .u8 (y3.toNat : Int), .int .u8 (y0.toNat : Int)]) rfl (by kernel_rfl) (by kernel_rfl) (by kernel_rfl) (fun _ _ _ h => h) (Or.inl ⟨by rfl, fun w' hw' => ?_⟩) hHeld ?_
                    · first | (go_simp; done) | (go_simp; rfl)
                    try simp only [Act.put, qT, q0, qS]
                    refine wpAnyH_ready (rs := [19]) (by kernel_rfl) (by simp) ?_
                    refine AllReadyH.cons (o := ⟨none, .store 125 (.tmp 10) (.tmp 62), 0, _, #[⟨18, .data⟩, ⟨0, .phase⟩, ⟨1, .phase⟩, ⟨2, .phase⟩, ⟨3, .phase⟩, ⟨4, .phase⟩, ⟨5, .phase⟩, ⟨6, .phase⟩, ⟨7, .phase⟩, ⟨8, .phase⟩, ⟨9, .phase⟩, ⟨10, .phase⟩, ⟨11, .phase⟩, ⟨12, .phase⟩, ⟨13, .phase⟩, ⟨14, .phase⟩, ⟨15, .phase⟩, ⟨16, .phase⟩, ⟨17, .phase⟩, ⟨18, .phase⟩], none⟩) rfl (fun K hK => ?_) AllReadyH.nil
                    rw [if_pos (by rfl)]
                    rw [← HMAe.out]
                    refine wp_store_row 125 _ _ rfl b MA rfl rfl 125 _ HROW.out HMAI.out (HP4.out.trans HMA4.out.symm) HMA1.out ?_
                    have hHeld2 := hHeld.below (below_setRow (Below.refl b V) (Nat.le_refl _) MA) hb
                    refine hK.out _ _ hHeld2 (fun _ => ?_)
                    clear hK K
                    try simp only [Act.put, qT, q0, qS]
                    refine wpAnyH_done (by kernel_rfl) ?_ _
                    exact ⟨rfl, rfl⟩
                  · go_wp2_with fail
                    refine hK.out _ _ hHeld (fun _ => ?_)
                    clear hK K
                    try simp only [Act.put, qT, q0, qS]
                    refine wpAnyH_take (i := 16) (oi := ⟨some 60, .indexAddr 109 (.tmp 3) (.tmp 59), 0, _, #[⟨15, .data⟩], none⟩) (v := .pointer (some ⟨w.heap.size + 1, x0.toNat, none⟩)) rfl (by kernel_rfl) (by kernel_rfl) (by kernel_rfl) (fun _ _ _ h => h) (Or.inl ⟨by rfl, fun w' hw' => ?_⟩) hHeld ?_
                    · first | (go_simp; done) | (go_simp; rfl)
                    try simp only [Act.put, qT, q0, qS]
                    refine wpAnyH_take (i := 17) (oi := ⟨some 61, .load 5 (.tmp 60), 5, _, #[⟨16, .data⟩], none⟩) (v := .int .u8 (y0.toNat : Int)) rfl (by kernel_rfl) (by kernel_rfl) (by kernel_rfl) (fun _ _ _ h => h) (Or.inl ⟨by rfl, fun w' hw' => ?_⟩) hHeld ?_
                    · have hcc := HT0.out w' hw'; first | (go_simp; done) | (go_simp; rfl)
                    try simp only [Act.put, qT, q0, qS]
                    refine wpAnyH_ready (rs := [11]) (by kernel_rfl) (by simp) ?_
                    refine AllReadyH.cons (o := ⟨some 55, .load 5 (.tmp 54), 5, _, #[⟨10, .data⟩], none⟩) rfl (fun K hK => ?_) AllReadyH.nil
                    rw [if_pos (by rfl)]
                    go_wp2_with fail
                    refine hK.out _ _ hHeld (fun _ => ?_)
                    clear hK K
                    try simp only [Act.put, qT, q0, qS]
                    refine wpAnyH_take (i := 12) (oi := ⟨some 56, .indexAddr 109 (.tmp 3) (.tmp 55), 0, _, #[⟨11, .data⟩], none⟩) (v := .pointer (some ⟨w.heap.size + 1, x3.toNat, none⟩)) rfl (by kernel_rfl) (by kernel_rfl) (by kernel_rfl) (fun _ _ _ h => h) (Or.inl ⟨by rfl, fun w' hw' => ?_⟩) hHeld ?_
                    · first | (go_simp; done) | (go_simp; rfl)
                    try simp only [Act.put, qT, q0, qS]
                    refine wpAnyH_take (i := 13) (oi := ⟨some 57, .load 5 (.tmp 56), 5, _, #[⟨12, .data⟩], none⟩) (v := .int .u8 (y3.toNat : Int)) rfl (by kernel_rfl) (by kernel_rfl) (by kernel_rfl) (fun _ _ _ h => h) (Or.inl ⟨by rfl, fun w' hw' => ?_⟩) hHeld ?_
                    · have hcc := HT3.out w' hw'; first | (go_simp; done) | (go_simp; rfl)
                    try simp only [Act.put, qT, q0, qS]
                    refine wpAnyH_take (i := 18) (oi := ⟨some 62, .build 125 #[(0, .tmp 49), (1, .tmp 53), (2, .tmp 57), (3, .tmp 61)], 125, _, #[⟨5, .data⟩, ⟨9, .data⟩, ⟨13, .data⟩, ⟨17, .data⟩], none⟩) (v := .agg #[.int .u8 (z1.toNat : Int), .int .u8 (y2.toNat : Int), .int .u8 (y3.toNat : Int), .int .u8 (y0.toNat : Int)]) rfl (by kernel_rfl) (by kernel_rfl) (by kernel_rfl) (fun _ _ _ h => h) (Or.inl ⟨by rfl, fun w' hw' => ?_⟩) hHeld ?_
                    · first | (go_simp; done) | (go_simp; rfl)
                    try simp only [Act.put, qT, q0, qS]
                    refine wpAnyH_ready (rs := [19]) (by kernel_rfl) (by simp) ?_
                    refine AllReadyH.cons (o := ⟨none, .store 125 (.tmp 10) (.tmp 62), 0, _, #[⟨18, .data⟩, ⟨0, .phase⟩, ⟨1, .phase⟩, ⟨2, .phase⟩, ⟨3, .phase⟩, ⟨4, .phase⟩, ⟨5, .phase⟩, ⟨6, .phase⟩, ⟨7, .phase⟩, ⟨8, .phase⟩, ⟨9, .phase⟩, ⟨10, .phase⟩, ⟨11, .phase⟩, ⟨12, .phase⟩, ⟨13, .phase⟩, ⟨14, .phase⟩, ⟨15, .phase⟩, ⟨16, .phase⟩, ⟨17, .phase⟩, ⟨18, .phase⟩], none⟩) rfl (fun K hK => ?_) AllReadyH.nil
                    rw [if_pos (by rfl)]
                    rw [← HMAe.out]
                    refine wp_store_row 125 _ _ rfl b MA rfl rfl 125 _ HROW.out HMAI.out (HP4.out.trans HMA4.out.symm) HMA1.out ?_
                    have hHeld2 := hHeld.below (below_setRow (Below.refl b V) (Nat.le_refl _) MA) hb
                    refine hK.out _ _ hHeld2 (fun _ => ?_)
                    clear hK K
                    try simp only [Act.put, qT, q0, qS]
                    refine wpAnyH_done (by kernel_rfl) ?_ _
                    exact ⟨rfl, rfl⟩
                · go_wp2_with fail
                  refine hK.out _ _ hHeld (fun _ => ?_)
                  clear hK K
                  try simp only [Act.put, qT, q0, qS]
                  refine wpAnyH_take (i := 12) (oi := ⟨some 56, .indexAddr 109 (.tmp 3) (.tmp 55), 0, _, #[⟨11, .data⟩], none⟩) (v := .pointer (some ⟨w.heap.size + 1, x3.toNat, none⟩)) rfl (by kernel_rfl) (by kernel_rfl) (by kernel_rfl) (fun _ _ _ h => h) (Or.inl ⟨by rfl, fun w' hw' => ?_⟩) hHeld ?_
                  · first | (go_simp; done) | (go_simp; rfl)
                  try simp only [Act.put, qT, q0, qS]
                  refine wpAnyH_take (i := 13) (oi := ⟨some 57, .load 5 (.tmp 56), 5, _, #[⟨12, .data⟩], none⟩) (v := .int .u8 (y3.toNat : Int)) rfl (by kernel_rfl) (by kernel_rfl) (by kernel_rfl) (fun _ _ _ h => h) (Or.inl ⟨by rfl, fun w' hw' => ?_⟩) hHeld ?_
                  · have hcc := HT3.out w' hw'; first | (go_simp; done) | (go_simp; rfl)
                  try simp only [Act.put, qT, q0, qS]
                  refine wpAnyH_ready (rs := [7, 15]) (by kernel_rfl) (by simp) ?_
                  refine AllReadyH.cons (o := ⟨some 51, .load 5 (.tmp 50), 5, _, #[⟨6, .data⟩], none⟩) rfl (fun K hK => ?_) (AllReadyH.cons (o := ⟨some 59, .load 5 (.tmp 58), 5, _, #[⟨14, .data⟩], none⟩) rfl (fun K hK => ?_) AllReadyH.nil)
                  all_goals rw [if_pos (by rfl)]
                  · go_wp2_with fail
                    refine hK.out _ _ hHeld (fun _ => ?_)
                    clear hK K
                    try simp only [Act.put, qT, q0, qS]
                    refine wpAnyH_take (i := 8) (oi := ⟨some 52, .indexAddr 109 (.tmp 3) (.tmp 51), 0, _, #[⟨7, .data⟩], none⟩) (v := .pointer (some ⟨w.heap.size + 1, x2.toNat, none⟩)) rfl (by kernel_rfl) (by kernel_rfl) (by kernel_rfl) (fun _ _ _ h => h) (Or.inl ⟨by rfl, fun w' hw' => ?_⟩) hHeld ?_
                    · first | (go_simp; done) | (go_simp; rfl)
                    try simp only [Act.put, qT, q0, qS]
                    refine wpAnyH_take (i := 9) (oi := ⟨some 53, .load 5 (.tmp 52), 5, _, #[⟨8, .data⟩], none⟩) (v := .int .u8 (y2.toNat : Int)) rfl (by kernel_rfl) (by kernel_rfl) (by kernel_rfl) (fun _ _ _ h => h) (Or.inl ⟨by rfl, fun w' hw' => ?_⟩) hHeld ?_
                    · have hcc := HT2.out w' hw'; first | (go_simp; done) | (go_simp; rfl)
                    try simp only [Act.put, qT, q0, qS]
                    refine wpAnyH_ready (rs := [15]) (by kernel_rfl) (by simp) ?_
                    refine AllReadyH.cons (o := ⟨some 59, .load 5 (.tmp 58), 5, _, #[⟨14, .data⟩], none⟩) rfl (fun K hK => ?_) AllReadyH.nil
                    rw [if_pos (by rfl)]
                    go_wp2_with fail
                    refine hK.out _ _ hHeld (fun _ => ?_)
                    clear hK K
                    try simp only [Act.put, qT, q0, qS]
                    refine wpAnyH_take (i := 16) (oi := ⟨some 60, .indexAddr 109 (.tmp 3) (.tmp 59), 0, _, #[⟨15, .data⟩], none⟩) (v := .pointer (some ⟨w.heap.size + 1, x0.toNat, none⟩)) rfl (by kernel_rfl) (by kernel_rfl) (by kernel_rfl) (fun _ _ _ h => h) (Or.inl ⟨by rfl, fun w' hw' => ?_⟩) hHeld ?_
                    · first | (go_simp; done) | (go_simp; rfl)
                    try simp only [Act.put, qT, q0, qS]
                    refine wpAnyH_take (i := 17) (oi := ⟨some 61, .load 5 (.tmp 60), 5, _, #[⟨16, .data⟩], none⟩) (v := .int .u8 (y0.toNat : Int)) rfl (by kernel_rfl) (by kernel_rfl) (by kernel_rfl) (fun _ _ _ h => h) (Or.inl ⟨by rfl, fun w' hw' => ?_⟩) hHeld ?_
                    · have hcc := HT0.out w' hw'; first | (go_simp; done) | (go_simp; rfl)
                    try simp only [Act.put, qT, q0, qS]
                    refine wpAnyH_take (i := 18) (oi := ⟨some 62, .build 125 #[(0, .tmp 49), (1, .tmp 53), (2, .tmp 57), (3, .tmp 61)], 125, _, #[⟨5, .data⟩, ⟨9, .data⟩, ⟨13, .data⟩, ⟨17, .data⟩], none⟩) (v := .agg #[.int .u8 (z1.toNat : Int), .int .u8 (y2.toNat : Int), .int .u8 (y3.toNat : Int), .int .u8 (y0.toNat : Int)]) rfl (by kernel_rfl) (by kernel_rfl) (by kernel_rfl) (fun _ _ _ h => h) (Or.inl ⟨by rfl, fun w' hw' => ?_⟩) hHeld ?_
                    · first | (go_simp; done) | (go_simp; rfl)
                    try simp only [Act.put, qT, q0, qS]
                    refine wpAnyH_ready (rs := [19]) (by kernel_rfl) (by simp) ?_
                    refine AllReadyH.cons (o := ⟨none, .store 125 (.tmp 10) (.tmp 62), 0, _, #[⟨18, .data⟩, ⟨0, .phase⟩, ⟨1, .phase⟩, ⟨2, .phase⟩, ⟨3, .phase⟩, ⟨4, .phase⟩, ⟨5, .phase⟩, ⟨6, .phase⟩, ⟨7, .phase⟩, ⟨8, .phase⟩, ⟨9, .phase⟩, ⟨10, .phase⟩, ⟨11, .phase⟩, ⟨12, .phase⟩, ⟨13, .phase⟩, ⟨14, .phase⟩, ⟨15, .phase⟩, ⟨16, .phase⟩, ⟨17, .phase⟩, ⟨18, .phase⟩], none⟩) rfl (fun K hK => ?_) AllReadyH.nil
                    rw [if_pos (by rfl)]
                    rw [← HMAe.out]
                    refine wp_store_row 125 _ _ rfl b MA rfl rfl 125 _ HROW.out HMAI.out (HP4.out.trans HMA4.out.symm) HMA1.out ?_
                    have hHeld2 := hHeld.below (below_setRow (Below.refl b V) (Nat.le_refl _) MA) hb
                    refine hK.out _ _ hHeld2 (fun _ => ?_)
                    clear hK K
                    try simp only [Act.put, qT, q0, qS]
                    refine wpAnyH_done (by kernel_rfl) ?_ _
                    exact ⟨rfl, rfl⟩
                  · go_wp2_with fail
                    refine hK.out _ _ hHeld (fun _ => ?_)
                    clear hK K
                    try simp only [Act.put, qT, q0, qS]
                    refine wpAnyH_take (i := 16) (oi := ⟨some 60, .indexAddr 109 (.tmp 3) (.tmp 59), 0, _, #[⟨15, .data⟩], none⟩) (v := .pointer (some ⟨w.heap.size + 1, x0.toNat, none⟩)) rfl (by kernel_rfl) (by kernel_rfl) (by kernel_rfl) (fun _ _ _ h => h) (Or.inl ⟨by rfl, fun w' hw' => ?_⟩) hHeld ?_
                    · first | (go_simp; done) | (go_simp; rfl)
                    try simp only [Act.put, qT, q0, qS]
                    refine wpAnyH_take (i := 17) (oi := ⟨some 61, .load 5 (.tmp 60), 5, _, #[⟨16, .data⟩], none⟩) (v := .int .u8 (y0.toNat : Int)) rfl (by kernel_rfl) (by kernel_rfl) (by kernel_rfl) (fun _ _ _ h => h) (Or.inl ⟨by rfl, fun w' hw' => ?_⟩) hHeld ?_
                    · have hcc := HT0.out w' hw'; first | (go_simp; done) | (go_simp; rfl)
                    try simp only [Act.put, qT, q0, qS]
                    refine wpAnyH_ready (rs := [7]) (by kernel_rfl) (by simp) ?_
                    refine AllReadyH.cons (o := ⟨some 51, .load 5 (.tmp 50), 5, _, #[⟨6, .data⟩], none⟩) rfl (fun K hK => ?_) AllReadyH.nil
                    rw [if_pos (by rfl)]
                    go_wp2_with fail
                    refine hK.out _ _ hHeld (fun _ => ?_)
                    clear hK K
                    try simp only [Act.put, qT, q0, qS]
                    refine wpAnyH_take (i := 8) (oi := ⟨some 52, .indexAddr 109 (.tmp 3) (.tmp 51), 0, _, #[⟨7, .data⟩], none⟩) (v := .pointer (some ⟨w.heap.size + 1, x2.toNat, none⟩)) rfl (by kernel_rfl) (by kernel_rfl) (by kernel_rfl) (fun _ _ _ h => h) (Or.inl ⟨by rfl, fun w' hw' => ?_⟩) hHeld ?_
                    · first | (go_simp; done) | (go_simp; rfl)
                    try simp only [Act.put, qT, q0, qS]
                    refine wpAnyH_take (i := 9) (oi := ⟨some 53, .load 5 (.tmp 52), 5, _, #[⟨8, .data⟩], none⟩) (v := .int .u8 (y2.toNat : Int)) rfl (by kernel_rfl) (by kernel_rfl) (by kernel_rfl) (fun _ _ _ h => h) (Or.inl ⟨by rfl, fun w' hw' => ?_⟩) hHeld ?_
                    · have hcc := HT2.out w' hw'; first | (go_simp; done) | (go_simp; rfl)
                    try simp only [Act.put, qT, q0, qS]
                    refine wpAnyH_take (i := 18) (oi := ⟨some 62, .build 125 #[(0, .tmp 49), (1, .tmp 53), (2, .tmp 57), (3, .tmp 61)], 125, _, #[⟨5, .data⟩, ⟨9, .data⟩, ⟨13, .data⟩, ⟨17, .data⟩], none⟩) (v := .agg #[.int .u8 (z1.toNat : Int), .int .u8 (y2.toNat : Int), .int .u8 (y3.toNat : Int), .int .u8 (y0.toNat : Int)]) rfl (by kernel_rfl) (by kernel_rfl) (by kernel_rfl) (fun _ _ _ h => h) (Or.inl ⟨by rfl, fun w' hw' => ?_⟩) hHeld ?_
                    · first | (go_simp; done) | (go_simp; rfl)
                    try simp only [Act.put, qT, q0, qS]
                    refine wpAnyH_ready (rs := [19]) (by kernel_rfl) (by simp) ?_
                    refine AllReadyH.cons (o := ⟨none, .store 125 (.tmp 10) (.tmp 62), 0, _, #[⟨18, .data⟩, ⟨0, .phase⟩, ⟨1, .phase⟩, ⟨2, .phase⟩, ⟨3, .phase⟩, ⟨4, .phase⟩, ⟨5, .phase⟩, ⟨6, .phase⟩, ⟨7, .phase⟩, ⟨8, .phase⟩, ⟨9, .phase⟩, ⟨10, .phase⟩, ⟨11, .phase⟩, ⟨12, .phase⟩, ⟨13, .phase⟩, ⟨14, .phase⟩, ⟨15, .phase⟩, ⟨16, .phase⟩, ⟨17, .phase⟩, ⟨18, .phase⟩], none⟩) rfl (fun K hK => ?_) AllReadyH.nil
                    rw [if_pos (by rfl)]
                    rw [← HMAe.out]
                    refine wp_store_row 125 _ _ rfl b MA rfl rfl 125 _ HROW.out HMAI.out (HP4.out.trans HMA4.out.symm) HMA1.out ?_
                    have hHeld2 := hHeld.below (below_setRow (Below.refl b V) (Nat.le_refl _) MA) hb
                    refine hK.out _ _ hHeld2 (fun _ => ?_)
                    clear hK K
                    try simp only [Act.put, qT, q0, qS]
                    refine wpAnyH_done (by kernel_rfl) ?_ _
                    exact ⟨rfl, rfl⟩
                · go_wp2_with fail
                  refine hK.out _ _ hHeld (fun _ => ?_)
                  clear hK K
                  try simp only [Act.put, qT, q0, qS]
                  refine wpAnyH_take (i := 16) (oi := ⟨some 60, .indexAddr 109 (.tmp 3) (.tmp 59), 0, _, #[⟨15, .data⟩], none⟩) (v := .pointer (some ⟨w.heap.size + 1, x0.toNat, none⟩)) rfl (by kernel_rfl) (by kernel_rfl) (by kernel_rfl) (fun _ _ _ h => h) (Or.inl ⟨by rfl, fun w' hw' => ?_⟩) hHeld ?_
                  · first | (go_simp; done) | (go_simp; rfl)
                  try simp only [Act.put, qT, q0, qS]
                  refine wpAnyH_take (i := 17) (oi := ⟨some 61, .load 5 (.tmp 60), 5, _, #[⟨16, .data⟩], none⟩) (v := .int .u8 (y0.toNat : Int)) rfl (by kernel_rfl) (by kernel_rfl) (by kernel_rfl) (fun _ _ _ h => h) (Or.inl ⟨by rfl, fun w' hw' => ?_⟩) hHeld ?_
                  · have hcc := HT0.out w' hw'; first | (go_simp; done) | (go_simp; rfl)
                  try simp only [Act.put, qT, q0, qS]
                  refine wpAnyH_ready (rs := [7, 11]) (by kernel_rfl) (by simp) ?_
                  refine AllReadyH.cons (o := ⟨some 51, .load 5 (.tmp 50), 5, _, #[⟨6, .data⟩], none⟩) rfl (fun K hK => ?_) (AllReadyH.cons (o := ⟨some 55, .load 5 (.tmp 54), 5, _, #[⟨10, .data⟩], none⟩) rfl (fun K hK => ?_) AllReadyH.nil)
                  all_goals rw [if_pos (by rfl)]
                  · go_wp2_with fail
                    refine hK.out _ _ hHeld (fun _ => ?_)
                    clear hK K
                    try simp only [Act.put, qT, q0, qS]
                    refine wpAnyH_take (i := 8) (oi := ⟨some 52, .indexAddr 109 (.tmp 3) (.tmp 51), 0, _, #[⟨7, .data⟩], none⟩) (v := .pointer (some ⟨w.heap.size + 1, x2.toNat, none⟩)) rfl (by kernel_rfl) (by kernel_rfl) (by kernel_rfl) (fun _ _ _ h => h) (Or.inl ⟨by rfl, fun w' hw' => ?_⟩) hHeld ?_
                    · first | (go_simp; done) | (go_simp; rfl)
                    try simp only [Act.put, qT, q0, qS]
                    refine wpAnyH_take (i := 9) (oi := ⟨some 53, .load 5 (.tmp 52), 5, _, #[⟨8, .data⟩], none⟩) (v := .int .u8 (y2.toNat : Int)) rfl (by kernel_rfl) (by kernel_rfl) (by kernel_rfl) (fun _ _ _ h => h) (Or.inl ⟨by rfl, fun w' hw' => ?_⟩) hHeld ?_
                    · have hcc := HT2.out w' hw'; first | (go_simp; done) | (go_simp; rfl)
                    try simp only [Act.put, qT, q0, qS]
                    refine wpAnyH_ready (rs := [11]) (by kernel_rfl) (by simp) ?_
                    refine AllReadyH.cons (o := ⟨some 55, .load 5 (.tmp 54), 5, _, #[⟨10, .data⟩], none⟩) rfl (fun K hK => ?_) AllReadyH.nil
                    rw [if_pos (by rfl)]
                    go_wp2_with fail
                    refine hK.out _ _ hHeld (fun _ => ?_)
                    clear hK K
                    try simp only [Act.put, qT, q0, qS]
                    refine wpAnyH_take (i := 12) (oi := ⟨some 56, .indexAddr 109 (.tmp 3) (.tmp 55), 0, _, #[⟨11, .data⟩], none⟩) (v := .pointer (some ⟨w.heap.size + 1, x3.toNat, none⟩)) rfl (by kernel_rfl) (by kernel_rfl) (by kernel_rfl) (fun _ _ _ h => h) (Or.inl ⟨by rfl, fun w' hw' => ?_⟩) hHeld ?_
                    · first | (go_simp; done) | (go_simp; rfl)
                    try simp only [Act.put, qT, q0, qS]
                    refine wpAnyH_take (i := 13) (oi := ⟨some 57, .load 5 (.tmp 56), 5, _, #[⟨12, .data⟩], none⟩) (v := .int .u8 (y3.toNat : Int)) rfl (by kernel_rfl) (by kernel_rfl) (by kernel_rfl) (fun _ _ _ h => h) (Or.inl ⟨by rfl, fun w' hw' => ?_⟩) hHeld ?_
                    · have hcc := HT3.out w' hw'; first | (go_simp; done) | (go_simp; rfl)
                    try simp only [Act.put, qT, q0, qS]
                    refine wpAnyH_take (i := 18) (oi := ⟨some 62, .build 125 #[(0, .tmp 49), (1, .tmp 53), (2, .tmp 57), (3, .tmp 61)], 125, _, #[⟨5, .data⟩, ⟨9, .data⟩, ⟨13, .data⟩, ⟨17, .data⟩], none⟩) (v := .agg #[.int .u8 (z1.toNat : Int), .int .u8 (y2.toNat : Int), .int .u8 (y3.toNat : Int), .int .u8 (y0.toNat : Int)]) rfl (by kernel_rfl) (by kernel_rfl) (by kernel_rfl) (fun _ _ _ h => h) (Or.inl ⟨by rfl, fun w' hw' => ?_⟩) hHeld ?_
                    · first | (go_simp; done) | (go_simp; rfl)
                    try simp only [Act.put, qT, q0, qS]
                    refine wpAnyH_ready (rs := [19]) (by kernel_rfl) (by simp) ?_
                    refine AllReadyH.cons (o := ⟨none, .store 125 (.tmp 10) (.tmp 62), 0, _, #[⟨18, .data⟩, ⟨0, .phase⟩, ⟨1, .phase⟩, ⟨2, .phase⟩, ⟨3, .phase⟩, ⟨4, .phase⟩, ⟨5, .phase⟩, ⟨6, .phase⟩, ⟨7, .phase⟩, ⟨8, .phase⟩, ⟨9, .phase⟩, ⟨10, .phase⟩, ⟨11, .phase⟩, ⟨12, .phase⟩, ⟨13, .phase⟩, ⟨14, .phase⟩, ⟨15, .phase⟩, ⟨16, .phase⟩, ⟨17, .phase⟩, ⟨18, .phase⟩], none⟩) rfl (fun K hK => ?_) AllReadyH.nil
                    rw [if_pos (by rfl)]
                    rw [← HMAe.out]
                    refine wp_store_row 125 _ _ rfl b MA rfl rfl 125 _ HROW.out HMAI.out (HP4.out.trans HMA4.out.symm) HMA1.out ?_
                    have hHeld2 := hHeld.below (below_setRow (Below.refl b V) (Nat.le_refl _) MA) hb
                    refine hK.out _ _ hHeld2 (fun _ => ?_)
                    clear hK K
                    try simp only [Act.put, qT, q0, qS]
                    refine wpAnyH_done (by kernel_rfl) ?_ _
                    exact ⟨rfl, rfl⟩
                  · go_wp2_with fail
                    refine hK.out _ _ hHeld (fun _ => ?_)
                    clear hK K
                    try simp only [Act.put, qT, q0, qS]
                    refine wpAnyH_take (i := 12) (oi := ⟨some 56, .indexAddr 109 (.tmp 3) (.tmp 55), 0, _, #[⟨11, .data⟩], none⟩) (v := .pointer (some ⟨w.heap.size + 1, x3.toNat, none⟩)) rfl (by kernel_rfl) (by kernel_rfl) (by kernel_rfl) (fun _ _ _ h => h) (Or.inl ⟨by rfl, fun w' hw' => ?_⟩) hHeld ?_
                    · first | (go_simp; done) | (go_simp; rfl)
                    try simp only [Act.put, qT, q0, qS]
                    refine wpAnyH_take (i := 13) (oi := ⟨some 57, .load 5 (.tmp 56), 5, _, #[⟨12, .data⟩], none⟩) (v := .int .u8 (y3.toNat : Int)) rfl (by kernel_rfl) (by kernel_rfl) (by kernel_rfl) (fun _ _ _ h => h) (Or.inl ⟨by rfl, fun w' hw' => ?_⟩) hHeld ?_
                    · have hcc := HT3.out w' hw'; first | (go_simp; done) | (go_simp; rfl)
                    try simp only [Act.put, qT, q0, qS]
                    refine wpAnyH_ready (rs := [7]) (by kernel_rfl) (by simp) ?_
                    refine AllReadyH.cons (o := ⟨some 51, .load 5 (.tmp 50), 5, _, #[⟨6, .data⟩], none⟩) rfl (fun K hK => ?_) AllReadyH.nil
                    rw [if_pos (by rfl)]
                    go_wp2_with fail
                    refine hK.out _ _ hHeld (fun _ => ?_)
                    clear hK K
                    try simp only [Act.put, qT, q0, qS]
                    refine wpAnyH_take (i := 8) (oi := ⟨some 52, .indexAddr 109 (.tmp 3) (.tmp 51), 0, _, #[⟨7, .data⟩], none⟩) (v := .pointer (some ⟨w.heap.size + 1, x2.toNat, none⟩)) rfl (by kernel_rfl) (by kernel_rfl) (by kernel_rfl) (fun _ _ _ h => h) (Or.inl ⟨by rfl, fun w' hw' => ?_⟩) hHeld ?_
                    · first | (go_simp; done) | (go_simp; rfl)
                    try simp only [Act.put, qT, q0, qS]
                    refine wpAnyH_take (i := 9) (oi := ⟨some 53, .load 5 (.tmp 52), 5, _, #[⟨8, .data⟩], none⟩) (v := .int .u8 (y2.toNat : Int)) rfl (by kernel_rfl) (by kernel_rfl) (by kernel_rfl) (fun _ _ _ h => h) (Or.inl ⟨by rfl, fun w' hw' => ?_⟩) hHeld ?_
                    · have hcc := HT2.out w' hw'; first | (go_simp; done) | (go_simp; rfl)
                    try simp only [Act.put, qT, q0, qS]
                    refine wpAnyH_take (i := 18) (oi := ⟨some 62, .build 125 #[(0, .tmp 49), (1, .tmp 53), (2, .tmp 57), (3, .tmp 61)], 125, _, #[⟨5, .data⟩, ⟨9, .data⟩, ⟨13, .data⟩, ⟨17, .data⟩], none⟩) (v := .agg #[.int .u8 (z1.toNat : Int), .int .u8 (y2.toNat : Int), .int .u8 (y3.toNat : Int), .int .u8 (y0.toNat : Int)]) rfl (by kernel_rfl) (by kernel_rfl) (by kernel_rfl) (fun _ _ _ h => h) (Or.inl ⟨by rfl, fun w' hw' => ?_⟩) hHeld ?_
                    · first | (go_simp; done) | (go_simp; rfl)
                    try simp only [Act.put, qT, q0, qS]
                    refine wpAnyH_ready (rs := [19]) (by kernel_rfl) (by simp) ?_
                    refine AllReadyH.cons (o := ⟨none, .store 125 (.tmp 10) (.tmp 62), 0, _, #[⟨18, .data⟩, ⟨0, .phase⟩, ⟨1, .phase⟩, ⟨2, .phase⟩, ⟨3, .phase⟩, ⟨4, .phase⟩, ⟨5, .phase⟩, ⟨6, .phase⟩, ⟨7, .phase⟩, ⟨8, .phase⟩, ⟨9, .phase⟩, ⟨10, .phase⟩, ⟨11, .phase⟩, ⟨12, .phase⟩, ⟨13, .phase⟩, ⟨14, .phase⟩, ⟨15, .phase⟩, ⟨16, .phase⟩, ⟨17, .phase⟩, ⟨18, .phase⟩], none⟩) rfl (fun K hK => ?_) AllReadyH.nil
                    rw [if_pos (by rfl)]
                    rw [← HMAe.out]
                    refine wp_store_row 125 _ _ rfl b MA rfl rfl 125 _ HROW.out HMAI.out (HP4.out.trans HMA4.out.symm) HMA1.out ?_
                    have hHeld2 := hHeld.below (below_setRow (Below.refl b V) (Nat.le_refl _) MA) hb
                    refine hK.out _ _ hHeld2 (fun _ => ?_)
                    clear hK K
                    try simp only [Act.put, qT, q0, qS]
                    refine wpAnyH_done (by kernel_rfl) ?_ _
                    exact ⟨rfl, rfl⟩
              · go_wp2_with fail
                refine hK.out _ _ hHeld (fun _ => ?_)
                clear hK K
                try simp only [Act.put, qT, q0, qS]
                refine wpAnyH_take (i := 8) (oi := ⟨some 52, .indexAddr 109 (.tmp 3) (.tmp 51), 0, _, #[⟨7, .data⟩], none⟩) (v := .pointer (some ⟨w.heap.size + 1, x2.toNat, none⟩)) rfl (by kernel_rfl) (by kernel_rfl) (by kernel_rfl) (fun _ _ _ h => h) (Or.inl ⟨by rfl, fun w' hw' => ?_⟩) hHeld ?_
                · first | (go_simp; done) | (go_simp; rfl)
                try simp only [Act.put, qT, q0, qS]
                refine wpAnyH_take (i := 9) (oi := ⟨some 53, .load 5 (.tmp 52), 5, _, #[⟨8, .data⟩], none⟩) (v := .int .u8 (y2.toNat : Int)) rfl (by kernel_rfl) (by kernel_rfl) (by kernel_rfl) (fun _ _ _ h => h) (Or.inl ⟨by rfl, fun w' hw' => ?_⟩) hHeld ?_
                · have hcc := HT2.out w' hw'; first | (go_simp; done) | (go_simp; rfl)
                try simp only [Act.put, qT, q0, qS]
                refine wpAnyH_ready (rs := [1, 11, 15]) (by kernel_rfl) (by simp) ?_
                refine AllReadyH.cons (o := ⟨some 45, .load 5 (.tmp 44), 5, _, #[⟨0, .data⟩], none⟩) rfl (fun K hK => ?_) (AllReadyH.cons (o := ⟨some 55, .load 5 (.tmp 54), 5, _, #[⟨10, .data⟩], none⟩) rfl (fun K hK => ?_) (AllReadyH.cons (o := ⟨some 59, .load 5 (.tmp 58), 5, _, #[⟨14, .data⟩], none⟩) rfl (fun K hK => ?_) AllReadyH.nil))
                all_goals rw [if_pos (by rfl)]
                · go_wp2_with fail
                  refine hK.out _ _ hHeld (fun _ => ?_)
                  clear hK K
                  try simp only [Act.put, qT, q0, qS]
                  refine wpAnyH_take (i := 2) (oi := ⟨some 46, .indexAddr 109 (.tmp 3) (.tmp 45), 0, _, #[⟨1, .data⟩], none⟩) (v := .pointer (some ⟨w.heap.size + 1, x1.toNat, none⟩)) rfl (by kernel_rfl) (by kernel_rfl) (by kernel_rfl) (fun _ _ _ h => h) (Or.inl ⟨by rfl, fun w' hw' => ?_⟩) hHeld ?_
                  · first | (go_simp; done) | (go_simp; rfl)
                  try simp only [Act.put, qT, q0, qS]
                  refine wpAnyH_take (i := 3) (oi := ⟨some 47, .load 5 (.tmp 46), 5, _, #[⟨2, .data⟩], none⟩) (v := .int .u8 (y1.toNat : Int)) rfl (by kernel_rfl) (by kernel_rfl) (by kernel_rfl) (fun _ _ _ h => h) (Or.inl ⟨by rfl, fun w' hw' => ?_⟩) hHeld ?_
                  · have hcc := HT1.out w' hw'; first | (go_simp; done) | (go_simp; rfl)
                  try simp only [Act.put, qT, q0, qS]
                  refine wpAnyH_take (i := 5) (oi := ⟨some 49, .binOp .xor 5 (.tmp 47) (.tmp 48) 5, 5, _, #[⟨3, .data⟩, ⟨4, .data⟩], none⟩) (v := .int .u8 (z1.toNat : Int)) rfl (by kernel_rfl) (by kernel_rfl) (by kernel_rfl) (fun _ _ _ h => h) (Or.inl ⟨by rfl, fun w' hw' => ?_⟩) hHeld ?_
                  · first | (go_simp; done) | (go_simp; rfl)
                  try simp only [Act.put, qT, q0, qS]
                  refine wpAnyH_ready (rs := [11, 15]) (by kernel_rfl) (by simp) ?_
                  refine AllReadyH.cons (o := ⟨some 55, .load 5 (.tmp 54), 5, _, #[⟨10, .data⟩], none⟩) rfl (fun K hK => ?_) (AllReadyH.cons (o := ⟨some 59, .load 5 (.tmp 58), 5, _, #[⟨14, .data⟩], none⟩) rfl (fun K hK => ?_) AllReadyH.nil)
                  all_goals rw [if_pos (by rfl)]
                  · go_wp2_with fail
                    refine hK.out _ _ hHeld (fun _ => ?_)
                    clear hK K
                    try simp only [Act.put, qT, q0, qS]
                    refine wpAnyH_take (i := 12) (oi := ⟨some 56, .indexAddr 109 (.tmp 3) (.tmp 55), 0, _, #[⟨11, .data⟩], none⟩) (v := .pointer (some ⟨w.heap.size + 1, x3.toNat, none⟩)) rfl (by kernel_rfl) (by kernel_rfl) (by kernel_rfl) (fun _ _ _ h => h) (Or.inl ⟨by rfl, fun w' hw' => ?_⟩) hHeld ?_
                    · first | (go_simp; done) | (go_simp; rfl)
                    try simp only [Act.put, qT, q0, qS]
                    refine wpAnyH_take (i := 13) (oi := ⟨some 57, .load 5 (.tmp 56), 5, _, #[⟨12, .data⟩], none⟩) (v := .int .u8 (y3.toNat : Int)) rfl (by kernel_rfl) (by kernel_rfl) (by kernel_rfl) (fun _ _ _ h => h) (Or.inl ⟨by rfl, fun w' hw' => ?_⟩) hHeld ?_
                    · have hcc := HT3.out w' hw'; first | (go_simp; done) | (go_simp; rfl)
                    try simp only [Act.put, qT, q0, qS]
                    refine wpAnyH_ready (rs := [15]) (by kernel_rfl) (by simp) ?_
                    refine AllReadyH.cons (o := ⟨some 59, .load 5 (.tmp 58), 5, _, #[⟨14, .data⟩], none⟩) rfl (fun K hK => ?_) AllReadyH.nil
                    rw [if_pos (by rfl)]
                    go_wp2_with fail
                    refine hK.out _ _ hHeld (fun _ => ?_)
                    clear hK K
                    try simp only [Act.put, qT, q0, qS]
                    refine wpAnyH_take (i := 16) (oi := ⟨some 60, .indexAddr 109 (.tmp 3) (.tmp 59), 0, _, #[⟨15, .data⟩], none⟩) (v := .pointer (some ⟨w.heap.size + 1, x0.toNat, none⟩)) rfl (by kernel_rfl) (by kernel_rfl) (by kernel_rfl) (fun _ _ _ h => h) (Or.inl ⟨by rfl, fun w' hw' => ?_⟩) hHeld ?_
                    · first | (go_simp; done) | (go_simp; rfl)
                    try simp only [Act.put, qT, q0, qS]
                    refine wpAnyH_take (i := 17) (oi := ⟨some 61, .load 5 (.tmp 60), 5, _, #[⟨16, .data⟩], none⟩) (v := .int .u8 (y0.toNat : Int)) rfl (by kernel_rfl) (by kernel_rfl) (by kernel_rfl) (fun _ _ _ h => h) (Or.inl ⟨by rfl, fun w' hw' => ?_⟩) hHeld ?_
                    · have hcc := HT0.out w' hw'; first | (go_simp; done) | (go_simp; rfl)
                    try simp only [Act.put, qT, q0, qS]
                    refine wpAnyH_take (i := 18) (oi := ⟨some 62, .build 125 #[(0, .tmp 49), (1, .tmp 53), (2, .tmp 57), (3, .tmp 61)], 125, _, #[⟨5, .data⟩, ⟨9, .data⟩, ⟨13, .data⟩, ⟨17, .data⟩], none⟩) (v := .agg #[.int .u8 (z1.toNat : Int), .int .u8 (y2.toNat : Int), .int .u8 (y3.toNat : Int), .int .u8 (y0.toNat : Int)]) rfl (by kernel_rfl) (by kernel_rfl) (by kernel_rfl) (fun _ _ _ h => h) (Or.inl ⟨by rfl, fun w' hw' => ?_⟩) hHeld ?_
                    · first | (go_simp; done) | (go_simp; rfl)
                    try simp only [Act.put, qT, q0, qS]
                    refine wpAnyH_ready (rs := [19]) (by kernel_rfl) (by simp) ?_
                    refine AllReadyH.cons (o := ⟨none, .store 125 (.tmp 10) (.tmp 62), 0, _, #[⟨18, .data⟩, ⟨0, .phase⟩, ⟨1, .phase⟩, ⟨2, .phase⟩, ⟨3, .phase⟩, ⟨4, .phase⟩, ⟨5, .phase⟩, ⟨6, .phase⟩, ⟨7, .phase⟩, ⟨8, .phase⟩, ⟨9, .phase⟩, ⟨10, .phase⟩, ⟨11, .phase⟩, ⟨12, .phase⟩, ⟨13, .phase⟩, ⟨14, .phase⟩, ⟨15, .phase⟩, ⟨16, .phase⟩, ⟨17, .phase⟩, ⟨18, .phase⟩], none⟩) rfl (fun K hK => ?_) AllReadyH.nil
                    rw [if_pos (by rfl)]
                    rw [← HMAe.out]
                    refine wp_store_row 125 _ _ rfl b MA rfl rfl 125 _ HROW.out HMAI.out (HP4.out.trans HMA4.out.symm) HMA1.out ?_
                    have hHeld2 := hHeld.below (below_setRow (Below.refl b V) (Nat.le_refl _) MA) hb
                    refine hK.out _ _ hHeld2 (fun _ => ?_)
                    clear hK K
                    try simp only [Act.put, qT, q0, qS]
                    refine wpAnyH_done (by kernel_rfl) ?_ _
                    exact ⟨rfl, rfl⟩
                  · go_wp2_with fail
                    refine hK.out _ _ hHeld (fun _ => ?_)
                    clear hK K
                    try simp only [Act.put, qT, q0, qS]
                    refine wpAnyH_take (i := 16) (oi := ⟨some 60, .indexAddr 109 (.tmp 3) (.tmp 59), 0, _, #[⟨15, .data⟩], none⟩) (v := .pointer (some ⟨w.heap.size + 1, x0.toNat, none⟩)) rfl (by kernel_rfl) (by kernel_rfl) (by kernel_rfl) (fun _ _ _ h => h) (Or.inl ⟨by rfl, fun w' hw' => ?_⟩) hHeld ?_
                    · first | (go_simp; done) | (go_simp; rfl)
                    try simp only [Act.put, qT, q0, qS]
                    refine wpAnyH_take (i := 17) (oi := ⟨some 61, .load 5 (.tmp 60), 5, _, #[⟨16, .data⟩], none⟩) (v := .int .u8 (y0.toNat : Int)) rfl (by kernel_rfl) (by kernel_rfl) (by kernel_rfl) (fun _ _ _ h => h) (Or.inl ⟨by rfl, fun w' hw' => ?_⟩) hHeld ?_
                    · have hcc := HT0.out w' hw'; first | (go_simp; done) | (go_simp; rfl)
                    try simp only [Act.put, qT, q0, qS]
                    refine wpAnyH_ready (rs := [11]) (by kernel_rfl) (by simp) ?_
                    refine AllReadyH.cons (o := ⟨some 55, .load 5 (.tmp 54), 5, _, #[⟨10, .data⟩], none⟩) rfl (fun K hK => ?_) AllReadyH.nil
                    rw [if_pos (by rfl)]
                    go_wp2_with fail
                    refine hK.out _ _ hHeld (fun _ => ?_)
                    clear hK K
                    try simp only [Act.put, qT, q0, qS]
                    refine wpAnyH_take (i := 12) (oi := ⟨some 56, .indexAddr 109 (.tmp 3) (.tmp 55), 0, _, #[⟨11, .data⟩], none⟩) (v := .pointer (some ⟨w.heap.size + 1, x3.toNat, none⟩)) rfl (by kernel_rfl) (by kernel_rfl) (by kernel_rfl) (fun _ _ _ h => h) (Or.inl ⟨by rfl, fun w' hw' => ?_⟩) hHeld ?_
                    · first | (go_simp; done) | (go_simp; rfl)
                    try simp only [Act.put, qT, q0, qS]
                    refine wpAnyH_take (i := 13) (oi := ⟨some 57, .load 5 (.tmp 56), 5, _, #[⟨12, .data⟩], none⟩) (v := .int .u8 (y3.toNat : Int)) rfl (by kernel_rfl) (by kernel_rfl) (by kernel_rfl) (fun _ _ _ h => h) (Or.inl ⟨by rfl, fun w' hw' => ?_⟩) hHeld ?_
                    · have hcc := HT3.out w' hw'; first | (go_simp; done) | (go_simp; rfl)
                    try simp only [Act.put, qT, q0, qS]
                    refine wpAnyH_take (i := 18) (oi := ⟨some 62, .build 125 #[(0, .tmp 49), (1, .tmp 53), (2, .tmp 57), (3, .tmp 61)], 125, _, #[⟨5, .data⟩, ⟨9, .data⟩, ⟨13, .data⟩, ⟨17, .data⟩], none⟩) (v := .agg #[.int .u8 (z1.toNat : Int), .int .u8 (y2.toNat : Int), .int .u8 (y3.toNat : Int), .int .u8 (y0.toNat : Int)]) rfl (by kernel_rfl) (by kernel_rfl) (by kernel_rfl) (fun _ _ _ h => h) (Or.inl ⟨by rfl, fun w' hw' => ?_⟩) hHeld ?_
                    · first | (go_simp; done) | (go_simp; rfl)
                    try simp only [Act.put, qT, q0, qS]
                    refine wpAnyH_ready (rs := [19]) (by kernel_rfl) (by simp) ?_
                    refine AllReadyH.cons (o := ⟨none, .store 125 (.tmp 10) (.tmp 62), 0, _, #[⟨18, .data⟩, ⟨0, .phase⟩, ⟨1, .phase⟩, ⟨2, .phase⟩, ⟨3, .phase⟩, ⟨4, .phase⟩, ⟨5, .phase⟩, ⟨6, .phase⟩, ⟨7, .phase⟩, ⟨8, .phase⟩, ⟨9, .phase⟩, ⟨10, .phase⟩, ⟨11, .phase⟩, ⟨12, .phase⟩, ⟨13, .phase⟩, ⟨14, .phase⟩, ⟨15, .phase⟩, ⟨16, .phase⟩, ⟨17, .phase⟩, ⟨18, .phase⟩], none⟩) rfl (fun K hK => ?_) AllReadyH.nil
                    rw [if_pos (by rfl)]
                    rw [← HMAe.out]
                    refine wp_store_row 125 _ _ rfl b MA rfl rfl 125 _ HROW.out HMAI.out (HP4.out.trans HMA4.out.symm) HMA1.out ?_
                    have hHeld2 := hHeld.below (below_setRow (Below.refl b V) (Nat.le_refl _) MA) hb
                    refine hK.out _ _ hHeld2 (fun _ => ?_)
                    clear hK K
                    try simp only [Act.put, qT, q0, qS]
                    refine wpAnyH_done (by kernel_rfl) ?_ _
                    exact ⟨rfl, rfl⟩
                · go_wp2_with fail
                  refine hK.out _ _ hHeld (fun _ => ?_)
                  clear hK K
                  try simp only [Act.put, qT, q0, qS]
                  refine wpAnyH_take (i := 12) (oi := ⟨some 56, .indexAddr 109 (.tmp 3) (.tmp 55), 0, _, #[⟨11, .data⟩], none⟩) (v := .pointer (some ⟨w.heap.size + 1, x3.toNat, none⟩)) rfl (by kernel_rfl) (by kernel_rfl) (by kernel_rfl) (fun _ _ _ h => h) (Or.inl ⟨by rfl, fun w' hw' => ?_⟩) hHeld ?_
                  · first | (go_simp; done) | (go_simp; rfl)
                  try simp only [Act.put, qT, q0, qS]
                  refine wpAnyH_take (i := 13) (oi := ⟨some 57, .load 5 (.tmp 56), 5, _, #[⟨12, .data⟩], none⟩) (v := .int .u8 (y3.toNat : Int)) rfl (by kernel_rfl) (by kernel_rfl) (by kernel_rfl) (fun _ _ _ h => h) (Or.inl ⟨by rfl, fun w' hw' => ?_⟩) hHeld ?_
                  · have hcc := HT3.out w' hw'; first | (go_simp; done) | (go_simp; rfl)
                  try simp only [Act.put, qT, q0, qS]
                  refine wpAnyH_ready (rs := [1, 15]) (by kernel_rfl) (by simp) ?_
                  refine AllReadyH.cons (o := ⟨some 45, .load 5 (.tmp 44), 5, _, #[⟨0, .data⟩], none⟩) rfl (fun K hK => ?_) (AllReadyH.cons (o := ⟨some 59, .load 5 (.tmp 58), 5, _, #[⟨14, .data⟩], none⟩) rfl (fun K hK => ?_) AllReadyH.nil)
                  all_goals rw [if_pos (by rfl)]
                  · go_wp2_with fail
                    refine hK.out _ _ hHeld (fun _ => ?_)
                    clear hK K
                    try simp only [Act.put, qT, q0, qS]
                    refine wpAnyH_take (i := 2) (oi := ⟨some 46, .indexAddr 109 (.tmp 3) (.tmp 45), 0, _, #[⟨1, .data⟩], none⟩) (v := .pointer (some ⟨w.heap.size + 1, x1.toNat, none⟩)) rfl (by kernel_rfl) (by kernel_rfl) (by kernel_rfl) (fun _ _ _ h => h) (Or.inl ⟨by rfl, fun w' hw' => ?_⟩) hHeld ?_
                    · first | (go_simp; done) | (go_simp; rfl)
                    try simp only [Act.put, qT, q0, qS]
                    refine wpAnyH_take (i := 3) (oi := ⟨some 47, .load 5 (.tmp 46), 5, _, #[⟨2, .data⟩], none⟩) (v := .int .u8 (y1.toNat : Int)) rfl (by kernel_rfl) (by kernel_rfl) (by kernel_rfl) (fun _ _ _ h => h) (Or.inl ⟨by rfl, fun w' hw' => ?_⟩) hHeld ?_
                    · have hcc := HT1.out w' hw'; first | (go_simp; done) | (go_simp; rfl)
                    try simp only [Act.put, qT, q0, qS]
                    refine wpAnyH_take (i := 5) (oi := ⟨some 49, .binOp .xor 5 (.tmp 47) (.tmp 48) 5, 5, _, #[⟨3, .data⟩, ⟨4, .data⟩], none⟩) (v := .int .u8 (z1.toNat : Int)) rfl (by kernel_rfl) (by kernel_rfl) (by kernel_rfl) (fun _ _ _ h => h) (Or.inl ⟨by rfl, fun w' hw' => ?_⟩) hHeld ?_
                    · first | (go_simp; done) | (go_simp; rfl)
                    try simp only [Act.put, qT, q0, qS]
                    refine wpAnyH_ready (rs := [15]) (by kernel_rfl) (by simp) ?_
                    refine AllReadyH.cons (o := ⟨some 59, .load 5 (.tmp 58), 5, _, #[⟨14, .data⟩], none⟩) rfl (fun K hK => ?_) AllReadyH.nil
                    rw [if_pos (by rfl)]
                    go_wp2_with fail
                    refine hK.out _ _ hHeld (fun _ => ?_)
                    clear hK K
                    try simp only [Act.put, qT, q0, qS]
                    refine wpAnyH_take (i := 16) (oi := ⟨some 60, .indexAddr 109 (.tmp 3) (.tmp 59), 0, _, #[⟨15, .data⟩], none⟩) (v := .pointer (some ⟨w.heap.size + 1, x0.toNat, none⟩)) rfl (by kernel_rfl) (by kernel_rfl) (by kernel_rfl) (fun _ _ _ h => h) (Or.inl ⟨by rfl, fun w' hw' => ?_⟩) hHeld ?_
                    · first | (go_simp; done) | (go_simp; rfl)
                    try simp only [Act.put, qT, q0, qS]
                    refine wpAnyH_take (i := 17) (oi := ⟨some 61, .load 5 (.tmp 60), 5, _, #[⟨16, .data⟩], none⟩) (v := .int .u8 (y0.toNat : Int)) rfl (by kernel_rfl) (by kernel_rfl) (by kernel_rfl) (fun _ _ _ h => h) (Or.inl ⟨by rfl, fun w' hw' => ?_⟩) hHeld ?_
                    · have hcc := HT0.out w' hw'; first | (go_simp; done) | (go_simp; rfl)
                    try simp only [Act.put, qT, q0, qS]
                    refine wpAnyH_take (i := 18) (oi := ⟨some 62, .build 125 #[(0, .tmp 49), (1, .tmp 53), (2, .tmp 57), (3, .tmp 61)], 125, _, #[⟨5, .data⟩, ⟨9, .data⟩, ⟨13, .data⟩, ⟨17, .data⟩], none⟩) (v := .agg #[.int .u8 (z1.toNat : Int), .int .u8 (y2.toNat : Int), .int .u8 (y3.toNat : Int), .int .u8 (y0.toNat : Int)]) rfl (by kernel_rfl) (by kernel_rfl) (by kernel_rfl) (fun _ _ _ h => h) (Or.inl ⟨by rfl, fun w' hw' => ?_⟩) hHeld ?_
                    · first | (go_simp; done) | (go_simp; rfl)
                    try simp only [Act.put, qT, q0, qS]
                    refine wpAnyH_ready (rs := [19]) (by kernel_rfl) (by simp) ?_
                    refine AllReadyH.cons (o := ⟨none, .store 125 (.tmp 10) (.tmp 62), 0, _, #[⟨18, .data⟩, ⟨0, .phase⟩, ⟨1, .phase⟩, ⟨2, .phase⟩, ⟨3, .phase⟩, ⟨4, .phase⟩, ⟨5, .phase⟩, ⟨6, .phase⟩, ⟨7, .phase⟩, ⟨8, .phase⟩, ⟨9, .phase⟩, ⟨10, .phase⟩, ⟨11, .phase⟩, ⟨12, .phase⟩, ⟨13, .phase⟩, ⟨14, .phase⟩, ⟨15, .phase⟩, ⟨16, .phase⟩, ⟨17, .phase⟩, ⟨18, .phase⟩], none⟩) rfl (fun K hK => ?_) AllReadyH.nil
                    rw [if_pos (by rfl)]
                    rw [← HMAe.out]
                    refine wp_store_row 125 _ _ rfl b MA rfl rfl 125 _ HROW.out HMAI.out (HP4.out.trans HMA4.out.symm) HMA1.out ?_
                    have hHeld2 := hHeld.below (below_setRow (Below.refl b V) (Nat.le_refl _) MA) hb
                    refine hK.out _ _ hHeld2 (fun _ => ?_)
                    clear hK K
                    try simp only [Act.put, qT, q0, qS]
                    refine wpAnyH_done (by kernel_rfl) ?_ _
                    exact ⟨rfl, rfl⟩
                  · go_wp2_with fail
                    refine hK.out _ _ hHeld (fun _ => ?_)
                    clear hK K
                    try simp only [Act.put, qT, q0, qS]
                    refine wpAnyH_take (i := 16) (oi := ⟨some 60, .indexAddr 109 (.tmp 3) (.tmp 59), 0, _, #[⟨15, .data⟩], none⟩) (v := .pointer (some ⟨w.heap.size + 1, x0.toNat, none⟩)) rfl (by kernel_rfl) (by kernel_rfl) (by kernel_rfl) (fun _ _ _ h => h) (Or.inl ⟨by rfl, fun w' hw' => ?_⟩) hHeld ?_
                    · first | (go_simp; done) | (go_simp; rfl)
                    try simp only [Act.put, qT, q0, qS]
                    refine wpAnyH_take (i := 17) (oi := ⟨some 61, .load 5 (.tmp 60), 5, _, #[⟨16, .data⟩], none⟩) (v := .int .u8 (y0.toNat : Int)) rfl (by kernel_rfl) (by kernel_rfl) (by kernel_rfl) (fun _ _ _ h => h) (Or.inl ⟨by rfl, fun w' hw' => ?_⟩) hHeld ?_
                    · have hcc := HT0.out w' hw'; first | (go_simp; done) | (go_simp; rfl)
                    try simp only [Act.put, qT, q0, qS]
                    refine wpAnyH_ready (rs := [1]) (by kernel_rfl) (by simp) ?_
                    refine AllReadyH.cons (o := ⟨some 45, .load 5 (.tmp 44), 5, _, #[⟨0, .data⟩], none⟩) rfl (fun K hK => ?_) AllReadyH.nil
                    rw [if_pos (by rfl)]
                    go_wp2_with fail
                    refine hK.out _ _ hHeld (fun _ => ?_)
                    clear hK K
                    try simp only [Act.put, qT, q0, qS]
                    refine wpAnyH_take (i := 2) (oi := ⟨some 46, .indexAddr 109 (.tmp 3) (.tmp 45), 0, _, #[⟨1, .data⟩], none⟩) (v := .pointer (some ⟨w.heap.size + 1, x1.toNat, none⟩)) rfl (by kernel_rfl) (by kernel_rfl) (by kernel_rfl) (fun _ _ _ h => h) (Or.inl ⟨by rfl, fun w' hw' => ?_⟩) hHeld ?_
                    · first | (go_simp; done) | (go_simp; rfl)
                    try simp only [Act.put, qT, q0, qS]
                    refine wpAnyH_take (i := 3) (oi := ⟨some 47, .load 5 (.tmp 46), 5, _, #[⟨2, .data⟩], none⟩) (v := .int .u8 (y1.toNat : Int)) rfl (by kernel_rfl) (by kernel_rfl) (by kernel_rfl) (fun _ _ _ h => h) (Or.inl ⟨by rfl, fun w' hw' => ?_⟩) hHeld ?_
                    · have hcc := HT1.out w' hw'; first | (go_simp; done) | (go_simp; rfl)
                    try simp only [Act.put, qT, q0, qS]
                    refine wpAnyH_take (i := 5) (oi := ⟨some 49, .binOp .xor 5 (.tmp 47) (.tmp 48) 5, 5, _, #[⟨3, .data⟩, ⟨4, .data⟩], none⟩) (v := .int .u8 (z1.toNat : Int)) rfl (by kernel_rfl) (by kernel_rfl) (by kernel_rfl) (fun _ _ _ h => h) (Or.inl ⟨by rfl, fun w' hw' => ?_⟩) hHeld ?_
                    · first | (go_simp; done) | (go_simp; rfl)
                    try simp only [Act.put, qT, q0, qS]
                    refine wpAnyH_take (i := 18) (oi := ⟨some 62, .build 125 #[(0, .tmp 49), (1, .tmp 53), (2, .tmp 57), (3, .tmp 61)], 125, _, #[⟨5, .data⟩, ⟨9, .data⟩, ⟨13, .data⟩, ⟨17, .data⟩], none⟩) (v := .agg #[.int .u8 (z1.toNat : Int), .int .u8 (y2.toNat : Int), .int .u8 (y3.toNat : Int), .int .u8 (y0.toNat : Int)]) rfl (by kernel_rfl) (by kernel_rfl) (by kernel_rfl) (fun _ _ _ h => h) (Or.inl ⟨by rfl, fun w' hw' => ?_⟩) hHeld ?_
                    · first | (go_simp; done) | (go_simp; rfl)
                    try simp only [Act.put, qT, q0, qS]
                    refine wpAnyH_ready (rs := [19]) (by kernel_rfl) (by simp) ?_
                    refine AllReadyH.cons (o := ⟨none, .store 125 (.tmp 10) (.tmp 62), 0, _, #[⟨18, .data⟩, ⟨0, .phase⟩, ⟨1, .phase⟩, ⟨2, .phase⟩, ⟨3, .phase⟩, ⟨4, .phase⟩, ⟨5, .phase⟩, ⟨6, .phase⟩, ⟨7, .phase⟩, ⟨8, .phase⟩, ⟨9, .phase⟩, ⟨10, .phase⟩, ⟨11, .phase⟩, ⟨12, .phase⟩, ⟨13, .phase⟩, ⟨14, .phase⟩, ⟨15, .phase⟩, ⟨16, .phase⟩, ⟨17, .phase⟩, ⟨18, .phase⟩], none⟩) rfl (fun K hK => ?_) AllReadyH.nil
                    rw [if_pos (by rfl)]
                    rw [← HMAe.out]
                    refine wp_store_row 125 _ _ rfl b MA rfl rfl 125 _ HROW.out HMAI.out (HP4.out.trans HMA4.out.symm) HMA1.out ?_
                    have hHeld2 := hHeld.below (below_setRow (Below.refl b V) (Nat.le_refl _) MA) hb
                    refine hK.out _ _ hHeld2 (fun _ => ?_)
                    clear hK K
                    try simp only [Act.put, qT, q0, qS]
                    refine wpAnyH_done (by kernel_rfl) ?_ _
                    exact ⟨rfl, rfl⟩
                · go_wp2_with fail
                  refine hK.out _ _ hHeld (fun _ => ?_)
                  clear hK K
                  try simp only [Act.put, qT, q0, qS]
                  refine wpAnyH_take (i := 16) (oi := ⟨some 60, .indexAddr 109 (.tmp 3) (.tmp 59), 0, _, #[⟨15, .data⟩], none⟩) (v := .pointer (some ⟨w.heap.size + 1, x0.toNat, none⟩)) rfl (by kernel_rfl) (by kernel_rfl) (by kernel_rfl) (fun _ _ _ h => h) (Or.inl ⟨by rfl, fun w' hw' => ?_⟩) hHeld ?_
                  · first | (go_simp; done) | (go_simp; rfl)
                  try simp only [Act.put, qT, q0, qS]
                  refine wpAnyH_take (i := 17) (oi := ⟨some 61, .load 5 (.tmp 60), 5, _, #[⟨16, .data⟩], none⟩) (v := .int .u8 (y0.toNat : Int)) rfl (by kernel_rfl) (by kernel_rfl) (by kernel_rfl) (fun _ _ _ h => h) (Or.inl ⟨by rfl, fun w' hw' => ?_⟩) hHeld ?_
                  · have hcc := HT0.out w' hw'; first | (go_simp; done) | (go_simp; rfl)
                  try simp only [Act.put, qT, q0, qS]
                  refine wpAnyH_ready (rs := [1, 11]) (by kernel_rfl) (by simp) ?_
                  refine AllReadyH.cons (o := ⟨some 45, .load 5 (.tmp 44), 5, _, #[⟨0, .data⟩], none⟩) rfl (fun K hK => ?_) (AllReadyH.cons (o := ⟨some 55, .load 5 (.tmp 54), 5, _, #[⟨10, .data⟩], none⟩) rfl (fun K hK => ?_) AllReadyH.nil)
                  all_goals rw [if_pos (by rfl)]
                  · go_wp2_with fail
                    refine hK.out _ _ hHeld (fun _ => ?_)
                    clear hK K
                    try simp only [Act.put, qT, q0, qS]
                    refine wpAnyH_take (i := 2) (oi := ⟨some 46, .indexAddr 109 (.tmp 3) (.tmp 45), 0, _, #[⟨1, .data⟩], none⟩) (v := .pointer (some ⟨w.heap.size + 1, x1.toNat, none⟩)) rfl (by kernel_rfl) (by kernel_rfl) (by kernel_rfl) (fun _ _ _ h => h) (Or.inl ⟨by rfl, fun w' hw' => ?_⟩) hHeld ?_
                    · first | (go_simp; done) | (go_simp; rfl)
                    try simp only [Act.put, qT, q0, qS]
                    refine wpAnyH_take (i := 3) (oi := ⟨some 47, .load 5 (.tmp 46), 5, _, #[⟨2, .data⟩], none⟩) (v := .int .u8 (y1.toNat : Int)) rfl (by kernel_rfl) (by kernel_rfl) (by kernel_rfl) (fun _ _ _ h => h) (Or.inl ⟨by rfl, fun w' hw' => ?_⟩) hHeld ?_
                    · have hcc := HT1.out w' hw'; first | (go_simp; done) | (go_simp; rfl)
                    try simp only [Act.put, qT, q0, qS]
                    refine wpAnyH_take (i := 5) (oi := ⟨some 49, .binOp .xor 5 (.tmp 47) (.tmp 48) 5, 5, _, #[⟨3, .data⟩, ⟨4, .data⟩], none⟩) (v := .int .u8 (z1.toNat : Int)) rfl (by kernel_rfl) (by kernel_rfl) (by kernel_rfl) (fun _ _ _ h => h) (Or.inl ⟨by rfl, fun w' hw' => ?_⟩) hHeld ?_
                    · first | (go_simp; done) | (go_simp; rfl)
                    try simp only [Act.put, qT, q0, qS]
                    refine wpAnyH_ready (rs := [11]) (by kernel_rfl) (by simp) ?_
                    refine AllReadyH.cons (o := ⟨some 55, .load 5 (.tmp 54), 5, _, #[⟨10, .data⟩], none⟩) rfl (fun K hK => ?_) AllReadyH.nil
                    rw [if_pos (by rfl)]
                    go_wp2_with fail
                    refine hK.out _ _ hHeld (fun _ => ?_)
                    clear hK K
                    try simp only [Act.put, qT, q0, qS]
                    refine wpAnyH_take (i := 12) (oi := ⟨some 56, .indexAddr 109 (.tmp 3) (.tmp 55), 0, _, #[⟨11, .data⟩], none⟩) (v := .pointer (some ⟨w.heap.size + 1, x3.toNat, none⟩)) rfl (by kernel_rfl) (by kernel_rfl) (by kernel_rfl) (fun _ _ _ h => h) (Or.inl ⟨by rfl, fun w' hw' => ?_⟩) hHeld ?_
                    · first | (go_simp; done) | (go_simp; rfl)
                    try simp only [Act.put, qT, q0, qS]
                    refine wpAnyH_take (i := 13) (oi := ⟨some 57, .load 5 (.tmp 56), 5, _, #[⟨12, .data⟩], none⟩) (v := .int .u8 (y3.toNat : Int)) rfl (by kernel_rfl) (by kernel_rfl) (by kernel_rfl) (fun _ _ _ h => h) (Or.inl ⟨by rfl, fun w' hw' => ?_⟩) hHeld ?_
                    · have hcc := HT3.out w' hw'; first | (go_simp; done) | (go_simp; rfl)
                    try simp only [Act.put, qT, q0, qS]
                    refine wpAnyH_take (i := 18) (oi := ⟨some 62, .build 125 #[(0, .tmp 49), (1, .tmp 53), (2, .tmp 57), (3, .tmp 61)], 125, _, #[⟨5, .data⟩, ⟨9, .data⟩, ⟨13, .data⟩, ⟨17, .data⟩], none⟩) (v := .agg #[.int .u8 (z1.toNat : Int), .int .u8 (y2.toNat : Int), .int .u8 (y3.toNat : Int), .int .u8 (y0.toNat : Int)]) rfl (by kernel_rfl) (by kernel_rfl) (by kernel_rfl) (fun _ _ _ h => h) (Or.inl ⟨by rfl, fun w' hw' => ?_⟩) hHeld ?_
                    · first | (go_simp; done) | (go_simp; rfl)
                    try simp only [Act.put, qT, q0, qS]
                    refine wpAnyH_ready (rs := [19]) (by kernel_rfl) (by simp) ?_
                    refine AllReadyH.cons (o := ⟨none, .store 125 (.tmp 10) (.tmp 62), 0, _, #[⟨18, .data⟩, ⟨0, .phase⟩, ⟨1, .phase⟩, ⟨2, .phase⟩, ⟨3, .phase⟩, ⟨4, .phase⟩, ⟨5, .phase⟩, ⟨6, .phase⟩, ⟨7, .phase⟩, ⟨8, .phase⟩, ⟨9, .phase⟩, ⟨10, .phase⟩, ⟨11, .phase⟩, ⟨12, .phase⟩, ⟨13, .phase⟩, ⟨14, .phase⟩, ⟨15, .phase⟩, ⟨16, .phase⟩, ⟨17, .phase⟩, ⟨18, .phase⟩], none⟩) rfl (fun K hK => ?_) AllReadyH.nil
                    rw [if_pos (by rfl)]
                    rw [← HMAe.out]
                    refine wp_store_row 125 _ _ rfl b MA rfl rfl 125 _ HROW.out HMAI.out (HP4.out.trans HMA4.out.symm) HMA1.out ?_
                    have hHeld2 := hHeld.below (below_setRow (Below.refl b V) (Nat.le_refl _) MA) hb
                    refine hK.out _ _ hHeld2 (fun _ => ?_)
                    clear hK K
                    try simp only [Act.put, qT, q0, qS]
                    refine wpAnyH_done (by kernel_rfl) ?_ _
                    exact ⟨rfl, rfl⟩
                  · go_wp2_with fail
                    refine hK.out _ _ hHeld (fun _ => ?_)
                    clear hK K
                    try simp only [Act.put, qT, q0, qS]
                    refine wpAnyH_take (i := 12) (oi := ⟨some 56, .indexAddr 109 (.tmp 3) (.tmp 55), 0, _, #[⟨11, .data⟩], none⟩) (v := .pointer (some ⟨w.heap.size + 1, x3.toNat, none⟩)) rfl (by kernel_rfl) (by kernel_rfl) (by kernel_rfl) (fun _ _ _ h => h) (Or.inl ⟨by rfl, fun w' hw' => ?_⟩) hHeld ?_
                    · first | (go_simp; done) | (go_simp; rfl)
                    try simp only [Act.put, qT, q0, qS]
                    refine wpAnyH_take (i := 13) (oi := ⟨some 57, .load 5 (.tmp 56), 5, _, #[⟨12, .data⟩], none⟩) (v := .int .u8 (y3.toNat : Int)) rfl (by kernel_rfl) (by kernel_rfl) (by kernel_rfl) (fun _ _ _ h => h) (Or.inl ⟨by rfl, fun w' hw' => ?_⟩) hHeld ?_
                    · have hcc := HT3.out w' hw'; first | (go_simp; done) | (go_simp; rfl)
                    try simp only [Act.put, qT, q0, qS]
                    refine wpAnyH_ready (rs := [1]) (by kernel_rfl) (by simp) ?_
                    refine AllReadyH.cons (o := ⟨some 45, .load 5 (.tmp 44), 5, _, #[⟨0, .data⟩], none⟩) rfl (fun K hK => ?_) AllReadyH.nil
                    rw [if_pos (by rfl)]
                    go_wp2_with fail
                    refine hK.out _ _ hHeld (fun _ => ?_)
                    clear hK K
                    try simp only [Act.put, qT, q0, qS]
                    refine wpAnyH_take (i := 2) (oi := ⟨some 46, .indexAddr 109 (.tmp 3) (.tmp 45), 0, _, #[⟨1, .data⟩], none⟩) (v := .pointer (some ⟨w.heap.size + 1, x1.toNat, none⟩)) rfl (by kernel_rfl) (by kernel_rfl) (by kernel_rfl) (fun _ _ _ h => h) (Or.inl ⟨by rfl, fun w' hw' => ?_⟩) hHeld ?_
                    · first | (go_simp; done) | (go_simp; rfl)
                    try simp only [Act.put, qT, q0, qS]
                    refine wpAnyH_take (i := 3) (oi := ⟨some 47, .load 5 (.tmp 46), 5, _, #[⟨2, .data⟩], none⟩) (v := .int .u8 (y1.toNat : Int)) rfl (by kernel_rfl) (by kernel_rfl) (by kernel_rfl) (fun _ _ _ h => h) (Or.inl ⟨by rfl, fun w' hw' => ?_⟩) hHeld ?_
                    · have hcc := HT1.out w' hw'; first | (go_simp; done) | (go_simp; rfl)
                    try simp only [Act.put, qT, q0, qS]
                    refine wpAnyH_take (i := 5) (oi := ⟨some 49, .binOp .xor 5 (.tmp 47) (.tmp 48) 5, 5, _, #[⟨3, .data⟩, ⟨4, .data⟩], none⟩) (v := .int .u8 (z1.toNat : Int)) rfl (by kernel_rfl) (by kernel_rfl) (by kernel_rfl) (fun _ _ _ h => h) (Or.inl ⟨by rfl, fun w' hw' => ?_⟩) hHeld ?_
                    · first | (go_simp; done) | (go_simp; rfl)
                    try simp only [Act.put, qT, q0, qS]
                    refine wpAnyH_take (i := 18) (oi := ⟨some 62, .build 125 #[(0, .tmp 49), (1, .tmp 53), (2, .tmp 57), (3, .tmp 61)], 125, _, #[⟨5, .data⟩, ⟨9, .data⟩, ⟨13, .data⟩, ⟨17, .data⟩], none⟩) (v := .agg #[.int .u8 (z1.toNat : Int), .int .u8 (y2.toNat : Int), .int .u8 (y3.toNat : Int), .int .u8 (y0.toNat : Int)]) rfl (by kernel_rfl) (by kernel_rfl) (by kernel_rfl) (fun _ _ _ h => h) (Or.inl ⟨by rfl, fun w' hw' => ?_⟩) hHeld ?_
                    · first | (go_simp; done) | (go_simp; rfl)
                    try simp only [Act.put, qT, q0, qS]
                    refine wpAnyH_ready (rs := [19]) (by kernel_rfl) (by simp) ?_
                    refine AllReadyH.cons (o := ⟨none, .store 125 (.tmp 10) (.tmp 62), 0, _, #[⟨18, .data⟩, ⟨0, .phase⟩, ⟨1, .phase⟩, ⟨2, .phase⟩, ⟨3, .phase⟩, ⟨4, .phase⟩, ⟨5, .phase⟩, ⟨6, .phase⟩, ⟨7, .phase⟩, ⟨8, .phase⟩, ⟨9, .phase⟩, ⟨10, .phase⟩, ⟨11, .phase⟩, ⟨12, .phase⟩, ⟨13, .phase⟩, ⟨14, .phase⟩, ⟨15, .phase⟩, ⟨16, .phase⟩, ⟨17, .phase⟩, ⟨18, .phase⟩], none⟩) rfl (fun K hK => ?_) AllReadyH.nil
                    rw [if_pos (by rfl)]
                    rw [← HMAe.out]
                    refine wp_store_row 125 _ _ rfl b MA rfl rfl 125 _ HROW.out HMAI.out (HP4.out.trans HMA4.out.symm) HMA1.out ?_
                    have hHeld2 := hHeld.below (below_setRow (Below.refl b V) (Nat.le_refl _) MA) hb
                    refine hK.out _ _ hHeld2 (fun _ => ?_)
                    clear hK K
                    try simp only [Act.put, qT, q0, qS]
                    refine wpAnyH_done (by kernel_rfl) ?_ _
                    exact ⟨rfl, rfl⟩
              · go_wp2_with fail
                refine hK.out _ _ hHeld (fun _ => ?_)
                clear hK K
                try simp only [Act.put, qT, q0, qS]
                refine wpAnyH_take (i := 12) (oi := ⟨some 56, .indexAddr 109 (.tmp 3) (.tmp 55), 0, _, #[⟨11, .data⟩], none⟩) (v := .pointer (some ⟨w.heap.size + 1, x3.toNat, none⟩)) rfl (by kernel_rfl) (by kernel_rfl) (by kernel_rfl) (fun _ _ _ h => h) (Or.inl ⟨by rfl, fun w' hw' => ?_⟩) hHeld ?_
                · first | (go_simp; done) | (go_simp; rfl)
                try simp only [Act.put, qT, q0, qS]
                refine wpAnyH_take (i := 13) (oi := ⟨some 57, .load 5 (.tmp 56), 5, _, #[⟨12, .data⟩], none⟩) (v := .int .u8 (y3.toNat : Int)) rfl (by kernel_rfl) (by kernel_rfl) (by kernel_rfl) (fun _ _ _ h => h) (Or.inl ⟨by rfl, fun w' hw' => ?_⟩) hHeld ?_
                · have hcc := HT3.out w' hw'; first | (go_simp; done) | (go_simp; rfl)
                try simp only [Act.put, qT, q0, qS]
                refine wpAnyH_ready (rs := [1, 7, 15]) (by kernel_rfl) (by simp) ?_
                refine AllReadyH.cons (o := ⟨some 45, .load 5 (.tmp 44), 5, _, #[⟨0, .data⟩], none⟩) rfl (fun K hK => ?_) (AllReadyH.cons (o := ⟨some 51, .load 5 (.tmp 50), 5, _, #[⟨6, .data⟩], none⟩) rfl (fun K hK => ?_) (AllReadyH.cons (o := ⟨some 59, .load 5 (.tmp 58), 5, _, #[⟨14, .data⟩], none⟩) rfl (fun K hK => ?_) AllReadyH.nil))
                all_goals rw [if_pos (by rfl)]
                · go_wp2_with fail
                  refine hK.out _ _ hHeld (fun _ => ?_)
                  clear hK K
                  try simp only [Act.put, qT, q0, qS]
                  refine wpAnyH_take (i := 2) (oi := ⟨some 46, .indexAddr 109 (.tmp 3) (.tmp 45), 0, _, #[⟨1, .data⟩], none⟩) (v := .pointer (some ⟨w.heap.size + 1, x1.toNat, none⟩)) rfl (by kernel_rfl) (by kernel_rfl) (by kernel_rfl) (fun _ _ _ h => h) (Or.inl ⟨by rfl, fun w' hw' => ?_⟩) hHeld ?_
                  · first | (go_simp; done) | (go_simp; rfl)
                  try simp only [Act.put, qT, q0, qS]
                  refine wpAnyH_take (i := 3) (oi := ⟨some 47, .load 5 (.tmp 46), 5, _, #[⟨2, .data⟩], none⟩) (v := .int .u8 (y1.toNat : Int)) rfl (by kernel_rfl) (by kernel_rfl) (by kernel_rfl) (fun _ _ _ h => h) (Or.inl ⟨by rfl, fun w' hw' => ?_⟩) hHeld ?_
                  · have hcc := HT1.out w' hw'; first | (go_simp; done) | (go_simp; rfl)
                  try simp only [Act.put, qT, q0, qS]
                  refine wpAnyH_take (i := 5) (oi := ⟨some 49, .binOp .xor 5 (.tmp 47) (.tmp 48) 5, 5, _, #[⟨3, .data⟩, ⟨4, .data⟩], none⟩) (v := .int .u8 (z1.toNat : Int)) rfl (by kernel_rfl) (by kernel_rfl) (by kernel_rfl) (fun _ _ _ h => h) (Or.inl ⟨by rfl, fun w' hw' => ?_⟩) hHeld ?_
                  · first | (go_simp; done) | (go_simp; rfl)
                  try simp only [Act.put, qT, q0, qS]
                  refine wpAnyH_ready (rs := [7, 15]) (by kernel_rfl) (by simp) ?_
                  refine AllReadyH.cons (o := ⟨some 51, .load 5 (.tmp 50), 5, _, #[⟨6, .data⟩], none⟩) rfl (fun K hK => ?_) (AllReadyH.cons (o := ⟨some 59, .load 5 (.tmp 58), 5, _, #[⟨14, .data⟩], none⟩) rfl (fun K hK => ?_) AllReadyH.nil)
                  all_goals rw [if_pos (by rfl)]
                  · go_wp2_with fail
                    refine hK.out _ _ hHeld (fun _ => ?_)
                    clear hK K
                    try simp only [Act.put, qT, q0, qS]
                    refine wpAnyH_take (i := 8) (oi := ⟨some 52, .indexAddr 109 (.tmp 3) (.tmp 51), 0, _, #[⟨7, .data⟩], none⟩) (v := .pointer (some ⟨w.heap.size + 1, x2.toNat, none⟩)) rfl (by kernel_rfl) (by kernel_rfl) (by kernel_rfl) (fun _ _ _ h => h) (Or.inl ⟨by rfl, fun w' hw' => ?_⟩) hHeld ?_
                    · first | (go_simp; done) | (go_simp; rfl)
                    try simp only [Act.put, qT, q0, qS]
                    refine wpAnyH_take (i := 9) (oi := ⟨some 53, .load 5 (.tmp 52), 5, _, #[⟨8, .data⟩], none⟩) (v := .int .u8 (y2.toNat : Int)) rfl (by kernel_rfl) (by kernel_rfl) (by kernel_rfl) (fun _ _ _ h => h) (Or.inl ⟨by rfl, fun w' hw' => ?_⟩) hHeld ?_
                    · have hcc := HT2.out w' hw'; first | (go_simp; done) | (go_simp; rfl)
                    try simp only [Act.put, qT, q0, qS]
                    refine wpAnyH_ready (rs := [15]) (by kernel_rfl) (by simp) ?_
                    refine AllReadyH.cons (o := ⟨some 59, .load 5 (.tmp 58), 5, _, #[⟨14, .data⟩], none⟩) rfl (fun K hK => ?_) AllReadyH.nil
                    rw [if_pos (by rfl)]
                    go_wp2_with fail
                    refine hK.out _ _ hHeld (fun _ => ?_)
                    clear hK K
                    try simp only [Act.put, qT, q0, qS]
                    refine wpAnyH_take (i := 16) (oi := ⟨some 60, .indexAddr 109 (.tmp 3) (.tmp 59), 0, _, #[⟨15, .data⟩], none⟩) (v := .pointer (some ⟨w.heap.size + 1, x0.toNat, none⟩)) rfl (by kernel_rfl) (by kernel_rfl) (by kernel_rfl) (fun _ _ _ h => h) (Or.inl ⟨by rfl, fun w' hw' => ?_⟩) hHeld ?_
                    · first | (go_simp; done) | (go_simp; rfl)
                    try simp only [Act.put, qT, q0, qS]
                    refine wpAnyH_take (i := 17) (oi := ⟨some 61, .load 5 (.tmp 60), 5, _, #[⟨16, .data⟩], none⟩) (v := .int .u8 (y0.toNat : Int)) rfl (by kernel_rfl) (by kernel_rfl) (by kernel_rfl) (fun _ _ _ h => h) (Or.inl ⟨by rfl, fun w' hw' => ?_⟩) hHeld ?_
                    · have hcc := HT0.out w' hw'; first | (go_simp; done) | (go_simp; rfl)
                    try simp only [Act.put, qT, q0, qS]
                    refine wpAnyH_take (i := 18) (oi := ⟨some 62, .build 125 #[(0, .tmp 49), (1, .tmp 53), (2, .tmp 57), (3, .tmp 61)], 125, _, #[⟨5, .data⟩, ⟨9, .data⟩, ⟨13, .data⟩, ⟨17, .data⟩], none⟩) (v := .agg #[.int .u8 (z1.toNat : Int), .int .u8 (y2.toNat : Int), .int .u8 (y3.toNat : Int), .int .u8 (y0.toNat : Int)]) rfl (by kernel_rfl) (by kernel_rfl) (by kernel_rfl) (fun _ _ _ h => h) (Or.inl ⟨by rfl, fun w' hw' => ?_⟩) hHeld ?_
                    · first | (go_simp; done) | (go_simp; rfl)
                    try simp only [Act.put, qT, q0, qS]
                    refine wpAnyH_ready (rs := [19]) (by kernel_rfl) (by simp) ?_
                    refine AllReadyH.cons (o := ⟨none, .store 125 (.tmp 10) (.tmp 62), 0, _, #[⟨18, .data⟩, ⟨0, .phase⟩, ⟨1, .phase⟩, ⟨2, .phase⟩, ⟨3, .phase⟩, ⟨4, .phase⟩, ⟨5, .phase⟩, ⟨6, .phase⟩, ⟨7, .phase⟩, ⟨8, .phase⟩, ⟨9, .phase⟩, ⟨10, .phase⟩, ⟨11, .phase⟩, ⟨12, .phase⟩, ⟨13, .phase⟩, ⟨14, .phase⟩, ⟨15, .phase⟩, ⟨16, .phase⟩, ⟨17, .phase⟩, ⟨18, .phase⟩], none⟩) rfl (fun K hK => ?_) AllReadyH.nil
                    rw [if_pos (by rfl)]
                    rw [← HMAe.out]
                    refine wp_store_row 125 _ _ rfl b MA rfl rfl 125 _ HROW.out HMAI.out (HP4.out.trans HMA4.out.symm) HMA1.out ?_
                    have hHeld2 := hHeld.below (below_setRow (Below.refl b V) (Nat.le_refl _) MA) hb
                    refine hK.out _ _ hHeld2 (fun _ => ?_)
                    clear hK K
                    try simp only [Act.put, qT, q0, qS]
                    refine wpAnyH_done (by kernel_rfl) ?_ _
                    exact ⟨rfl, rfl⟩
                  · go_wp2_with fail
                    refine hK.out _ _ hHeld (fun _ => ?_)
                    clear hK K
                    try simp only [Act.put, qT, q0, qS]
                    refine wpAnyH_take (i := 16) (oi := ⟨some 60, .indexAddr 109 (.tmp 3) (.tmp 59), 0, _, #[⟨15, .data⟩], none⟩) (v := .pointer (some ⟨w.heap.size + 1, x0.toNat, none⟩)) rfl (by kernel_rfl) (by kernel_rfl) (by kernel_rfl) (fun _ _ _ h => h) (Or.inl ⟨by rfl, fun w' hw' => ?_⟩) hHeld ?_
                    · first | (go_simp; done) | (go_simp; rfl)
                    try simp only [Act.put, qT, q0, qS]
                    refine wpAnyH_take (i := 17) (oi := ⟨some 61, .load 5 (.tmp 60), 5, _, #[⟨16, .data⟩], none⟩) (v := .int .u8 (y0.toNat : Int)) rfl (by kernel_rfl) (by kernel_rfl) (by kernel_rfl) (fun _ _ _ h => h) (Or.inl ⟨by rfl, fun w' hw' => ?_⟩) hHeld ?_
                    · have hcc := HT0.out w' hw'; first | (go_simp; done) | (go_simp; rfl)
                    try simp only [Act.put, qT, q0, qS]
                    refine wpAnyH_ready (rs := [7]) (by kernel_rfl) (by simp) ?_
                    refine AllReadyH.cons (o := ⟨some 51, .load 5 (.tmp 50), 5, _, #[⟨6, .data⟩], none⟩) rfl (fun K hK => ?_) AllReadyH.nil
                    rw [if_pos (by rfl)]
                    go_wp2_with fail
                    refine hK.out _ _ hHeld (fun _ => ?_)
                    clear hK K
                    try simp only [Act.put, qT, q0, qS]
                    refine wpAnyH_take (i := 8) (oi := ⟨some 52, .indexAddr 109 (.tmp 3) (.tmp 51), 0, _, #[⟨7, .data⟩], none⟩) (v := .pointer (some ⟨w.heap.size + 1, x2.toNat, none⟩)) rfl (by kernel_rfl) (by kernel_rfl) (by kernel_rfl) (fun _ _ _ h => h) (Or.inl ⟨by rfl, fun w' hw' => ?_⟩) hHeld ?_
                    · first | (go_simp; done) | (go_simp; rfl)
                    try simp only [Act.put, qT, q0, qS]
                    refine wpAnyH_take (i := 9) (oi := ⟨some 53, .load 5 (.tmp 52), 5, _, #[⟨8, .data⟩], none⟩) (v := .int .u8 (y2.toNat : Int)) rfl (by kernel_rfl) (by kernel_rfl) (by kernel_rfl) (fun _ _ _ h => h) (Or.inl ⟨by rfl, fun w' hw' => ?_⟩) hHeld ?_
                    · have hcc := HT2.out w' hw'; first | (go_simp; done) | (go_simp; rfl)
                    try simp only [Act.put, qT, q0, qS]
                    refine wpAnyH_take (i := 18) (oi := ⟨some 62, .build 125 #[(0, .tmp 49), (1, .tmp 53), (2, .tmp 57), (3, .tmp 61)], 125, _, #[⟨5, .data⟩, ⟨9, .data⟩, ⟨13, .data⟩, ⟨17, .data⟩], none⟩) (v := .agg #[.int .u8 (z1.toNat : Int), .int .u8 (y2.toNat : Int), .int .u8 (y3.toNat : Int), .int .u8 (y0.toNat : Int)]) rfl (by kernel_rfl) (by kernel_rfl) (by kernel_rfl) (fun _ _ _ h => h) (Or.inl ⟨by rfl, fun w' hw' => ?_⟩) hHeld ?_
                    · first | (go_simp; done) | (go_simp; rfl)
                    try simp only [Act.put, qT, q0, qS]
                    refine wpAnyH_ready (rs := [19]) (by kernel_rfl) (by simp) ?_
                    refine AllReadyH.cons (o := ⟨none, .store 125 (.tmp 10) (.tmp 62), 0, _, #[⟨18, .data⟩, ⟨0, .phase⟩, ⟨1, .phase⟩, ⟨2, .phase⟩, ⟨3, .phase⟩, ⟨4, .phase⟩, ⟨5, .phase⟩, ⟨6, .phase⟩, ⟨7, .phase⟩, ⟨8, .phase⟩, ⟨9, .phase⟩, ⟨10, .phase⟩, ⟨11, .phase⟩, ⟨12, .phase⟩, ⟨13, .phase⟩, ⟨14, .phase⟩, ⟨15, .phase⟩, ⟨16, .phase⟩, ⟨17, .phase⟩, ⟨18, .phase⟩], none⟩) rfl (fun K hK => ?_) AllReadyH.nil
                    rw [if_pos (by rfl)]
                    rw [← HMAe.out]
                    refine wp_store_row 125 _ _ rfl b MA rfl rfl 125 _ HROW.out HMAI.out (HP4.out.trans HMA4.out.symm) HMA1.out ?_
                    have hHeld2 := hHeld.below (below_setRow (Below.refl b V) (Nat.le_refl _) MA) hb
                    refine hK.out _ _ hHeld2 (fun _ => ?_)
                    clear hK K
                    try simp only [Act.put, qT, q0, qS]
                    refine wpAnyH_done (by kernel_rfl) ?_ _
                    exact ⟨rfl, rfl⟩
                · go_wp2_with fail
                  refine hK.out _ _ hHeld (fun _ => ?_)
                  clear hK K
                  try simp only [Act.put, qT, q0, qS]
                  refine wpAnyH_take (i := 8) (oi := ⟨some 52, .indexAddr 109 (.tmp 3) (.tmp 51), 0, _, #[⟨7, .data⟩], none⟩) (v := .pointer (some ⟨w.heap.size + 1, x2.toNat, none⟩)) rfl (by kernel_rfl) (by kernel_rfl) (by kernel_rfl) (fun _ _ _ h => h) (Or.inl ⟨by rfl, fun w' hw' => ?_⟩) hHeld ?_
                  · first | (go_simp; done) | (go_simp; rfl)
                  try simp only [Act.put, qT, q0, qS]
                  refine wpAnyH_take (i := 9) (oi := ⟨some 53, .load 5 (.tmp 52), 5, _, #[⟨8, .data⟩], none⟩) (v := .int .u8 (y2.toNat : Int)) rfl (by kernel_rfl) (by kernel_rfl) (by kernel_rfl) (fun _ _ _ h => h) (Or.inl ⟨by rfl, fun w' hw' => ?_⟩) hHeld ?_
                  · have hcc := HT2.out w' hw'; first | (go_simp; done) | (go_simp; rfl)
                  try simp only [Act.put, qT, q0, qS]
                  refine wpAnyH_ready (rs := [1, 15]) (by kernel_rfl) (by simp) ?_
                  refine AllReadyH.cons (o := ⟨some 45, .load 5 (.tmp 44), 5, _, #[⟨0, .data⟩], none⟩) rfl (fun K hK => ?_) (AllReadyH.cons (o := ⟨some 59, .load 5 (.tmp 58), 5, _, #[⟨14, .data⟩], none⟩) rfl (fun K hK => ?_) AllReadyH.nil)
                  all_goals rw [if_pos (by rfl)]
                  · go_wp2_with fail
                    refine hK.out _ _ hHeld (fun _ => ?_)
                    clear hK K
                    try simp only [Act.put, qT, q0, qS]
                    refine wpAnyH_take (i := 2) (oi := ⟨some 46, .indexAddr 109 (.tmp 3) (.tmp 45), 0, _, #[⟨1, .data⟩], none⟩) (v := .pointer (some ⟨w.heap.size + 1, x1.toNat, none⟩)) rfl (by kernel_rfl) (by kernel_rfl) (by kernel_rfl) (fun _ _ _ h => h) (Or.inl ⟨by rfl, fun w' hw' => ?_⟩) hHeld ?_
                    · first | (go_simp; done) | (go_simp; rfl)
                    try simp only [Act.put, qT, q0, qS]
                    refine wpAnyH_take (i := 3) (oi := ⟨some 47, .load 5 (.tmp 46), 5, _, #[⟨2, .data⟩], none⟩) (v := .int .u8 (y1.toNat : Int)) rfl (by kernel_rfl) (by kernel_rfl) (by kernel_rfl) (fun _ _ _ h => h) (Or.inl ⟨by rfl, fun w' hw' => ?_⟩) hHeld ?_
                    · have hcc := HT1.out w' hw'; first | (go_simp; done) | (go_simp; rfl)
                    try simp only [Act.put, qT, q0, qS]
                    refine wpAnyH_take (i := 5) (oi := ⟨some 49, .binOp .xor 5 (.tmp 47) (.tmp 48) 5, 5, _, #[⟨3, .data⟩, ⟨4, .data⟩], none⟩) (v := .int .u8 (z1.toNat : Int)) rfl (by kernel_rfl) (by kernel_rfl) (by kernel_rfl) (fun _ _ _ h => h) (Or.inl ⟨by rfl, fun w' hw' => ?_⟩) hHeld ?_
                    · first | (go_simp; done) | (go_simp; rfl)
                    try simp only [Act.put, qT, q0, qS]
                    refine wpAnyH_ready (rs := [15]) (by kernel_rfl) (by simp) ?_
                    refine AllReadyH.cons (o := ⟨some 59, .load 5 (.tmp 58), 5, _, #[⟨14, .data⟩], none⟩) rfl (fun K hK => ?_) AllReadyH.nil
                    rw [if_pos (by rfl)]
                    go_wp2_with fail
                    refine hK.out _ _ hHeld (fun _ => ?_)
                    clear hK K
                    try simp only [Act.put, qT, q0, qS]
                    refine wpAnyH_take (i := 16) (oi := ⟨some 60, .indexAddr 109 (.tmp 3) (.tmp 59), 0, _, #[⟨15, .data⟩], none⟩) (v := .pointer (some ⟨w.heap.size + 1, x0.toNat, none⟩)) rfl (by kernel_rfl) (by kernel_rfl) (by kernel_rfl) (fun _ _ _ h => h) (Or.inl ⟨by rfl, fun w' hw' => ?_⟩) hHeld ?_
                    · first | (go_simp; done) | (go_simp; rfl)
                    try simp only [Act.put, qT, q0, qS]
                    refine wpAnyH_take (i := 17) (oi := ⟨some 61, .load 5 (.tmp 60), 5, _, #[⟨16, .data⟩], none⟩) (v := .int .u8 (y0.toNat : Int)) rfl (by kernel_rfl) (by kernel_rfl) (by kernel_rfl) (fun _ _ _ h => h) (Or.inl ⟨by rfl, fun w' hw' => ?_⟩) hHeld ?_
                    · have hcc := HT0.out w' hw'; first | (go_simp; done) | (go_simp; rfl)
                    try simp only [Act.put, qT, q0, qS]
                    refine wpAnyH_take (i := 18) (oi := ⟨some 62, .build 125 #[(0, .tmp 49), (1, .tmp 53), (2, .tmp 57), (3, .tmp 61)], 125, _, #[⟨5, .data⟩, ⟨9, .data⟩, ⟨13, .data⟩, ⟨17, .data⟩], none⟩) (v := .agg #[.int .u8 (z1.toNat : Int), .int .u8 (y2.toNat : Int), .int .u8 (y3.toNat : Int), .int .u8 (y0.toNat : Int)]) rfl (by kernel_rfl) (by kernel_rfl) (by kernel_rfl) (fun _ _ _ h => h) (Or.inl ⟨by rfl, fun w' hw' => ?_⟩) hHeld ?_
                    · first | (go_simp; done) | (go_simp; rfl)
                    try simp only [Act.put, qT, q0, qS]
                    refine wpAnyH_ready (rs := [19]) (by kernel_rfl) (by simp) ?_
                    refine AllReadyH.cons (o := ⟨none, .store 125 (.tmp 10) (.tmp 62), 0, _, #[⟨18, .data⟩, ⟨0, .phase⟩, ⟨1, .phase⟩, ⟨2, .phase⟩, ⟨3, .phase⟩, ⟨4, .phase⟩, ⟨5, .phase⟩, ⟨6, .phase⟩, ⟨7, .phase⟩, ⟨8, .phase⟩, ⟨9, .phase⟩, ⟨10, .phase⟩, ⟨11, .phase⟩, ⟨12, .phase⟩, ⟨13, .phase⟩, ⟨14, .phase⟩, ⟨15, .phase⟩, ⟨16, .phase⟩, ⟨17, .phase⟩, ⟨18, .phase⟩], none⟩) rfl (fun K hK => ?_) AllReadyH.nil
                    rw [if_pos (by rfl)]
                    rw [← HMAe.out]
                    refine wp_store_row 125 _ _ rfl b MA rfl rfl 125 _ HROW.out HMAI.out (HP4.out.trans HMA4.out.symm) HMA1.out ?_
                    have hHeld2 := hHeld.below (below_setRow (Below.refl b V) (Nat.le_refl _) MA) hb
                    refine hK.out _ _ hHeld2 (fun _ => ?_)
                    clear hK K
                    try simp only [Act.put, qT, q0, qS]
                    refine wpAnyH_done (by kernel_rfl) ?_ _
                    exact ⟨rfl, rfl⟩
                  · go_wp2_with fail
                    refine hK.out _ _ hHeld (fun _ => ?_)
                    clear hK K
                    try simp only [Act.put, qT, q0, qS]
                    refine wpAnyH_take (i := 16) (oi := ⟨some 60, .indexAddr 109 (.tmp 3) (.tmp 59), 0, _, #[⟨15, .data⟩], none⟩) (v := .pointer (some ⟨w.heap.size + 1, x0.toNat, none⟩)) rfl (by kernel_rfl) (by kernel_rfl) (by kernel_rfl) (fun _ _ _ h => h) (Or.inl ⟨by rfl, fun w' hw' => ?_⟩) hHeld ?_
                    · first | (go_simp; done) | (go_simp; rfl)
                    try simp only [Act.put, qT, q0, qS]
                    refine wpAnyH_take (i := 17) (oi := ⟨some 61, .load 5 (.tmp 60), 5, _, #[⟨16, .data⟩], none⟩) (v := .int .u8 (y0.toNat : Int)) rfl (by kernel_rfl) (by kernel_rfl) (by kernel_rfl) (fun _ _ _ h => h) (Or.inl ⟨by rfl, fun w' hw' => ?_⟩) hHeld ?_
                    · have hcc := HT0.out w' hw'; first | (go_simp; done) | (go_simp; rfl)
                    try simp only [Act.put, qT, q0, qS]
                    refine wpAnyH_ready (rs := [1]) (by kernel_rfl) (by simp) ?_
                    refine AllReadyH.cons (o := ⟨some 45, .load 5 (.tmp 44), 5, _, #[⟨0, .data⟩], none⟩) rfl (fun K hK => ?_) AllReadyH.nil
                    rw [if_pos (by rfl)]
                    go_wp2_with fail
                    refine hK.out _ _ hHeld (fun _ => ?_)
                    clear hK K
                    try simp only [Act.put, qT, q0, qS]
                    refine wpAnyH_take (i := 2) (oi := ⟨some 46, .indexAddr 109 (.tmp 3) (.tmp 45), 0, _, #[⟨1, .data⟩], none⟩) (v := .pointer (some ⟨w.heap.size + 1, x1.toNat, none⟩)) rfl (by kernel_rfl) (by kernel_rfl) (by kernel_rfl) (fun _ _ _ h => h) (Or.inl ⟨by rfl, fun w' hw' => ?_⟩) hHeld ?_
                    · first | (go_simp; done) | (go_simp; rfl)
                    try simp only [Act.put, qT, q0, qS]
                    refine wpAnyH_take (i := 3) (oi := ⟨some 47, .load 5 (.tmp 46), 5, _, #[⟨2, .data⟩], none⟩) (v := .int .u8 (y1.toNat : Int)) rfl (by kernel_rfl) (by kernel_rfl) (by kernel_rfl) (fun _ _ _ h => h) (Or.inl ⟨by rfl, fun w' hw' => ?_⟩) hHeld ?_
                    · have hcc := HT1.out w' hw'; first | (go_simp; done) | (go_simp; rfl)
                    try simp only [Act.put, qT, q0, qS]
                    refine wpAnyH_take (i := 5) (oi := ⟨some 49, .binOp .xor 5 (.tmp 47) (.tmp 48) 5, 5, _, #[⟨3, .data⟩, ⟨4, .data⟩], none⟩) (v := .int .u8 (z1.toNat : Int)) rfl (by kernel_rfl) (by kernel_rfl) (by kernel_rfl) (fun _ _ _ h => h) (Or.inl ⟨by rfl, fun w' hw' => ?_⟩) hHeld ?_
                    · first | (go_simp; done) | (go_simp; rfl)
                    try simp only [Act.put, qT, q0, qS]
                    refine wpAnyH_take (i := 18) (oi := ⟨some 62, .build 125 #[(0, .tmp 49), (1, .tmp 53), (2, .tmp 57), (3, .tmp 61)], 125, _, #[⟨5, .data⟩, ⟨9, .data⟩, ⟨13, .data⟩, ⟨17, .data⟩], none⟩) (v := .agg #[.int .u8 (z1.toNat : Int), .int .u8 (y2.toNat : Int), .int .u8 (y3.toNat : Int), .int .u8 (y0.toNat : Int)]) rfl (by kernel_rfl) (by kernel_rfl) (by kernel_rfl) (fun _ _ _ h => h) (Or.inl ⟨by rfl, fun w' hw' => ?_⟩) hHeld ?_
                    · first | (go_simp; done) | (go_simp; rfl)
                    try simp only [Act.put, qT, q0, qS]
                    refine wpAnyH_ready (rs := [19]) (by kernel_rfl) (by simp) ?_
                    refine AllReadyH.cons (o := ⟨none, .store 125 (.tmp 10) (.tmp 62), 0, _, #[⟨18, .data⟩, ⟨0, .phase⟩, ⟨1, .phase⟩, ⟨2, .phase⟩, ⟨3, .phase⟩, ⟨4, .phase⟩, ⟨5, .phase⟩, ⟨6, .phase⟩, ⟨7, .phase⟩, ⟨8, .phase⟩, ⟨9, .phase⟩, ⟨10, .phase⟩, ⟨11, .phase⟩, ⟨12, .phase⟩, ⟨13, .phase⟩, ⟨14, .phase⟩, ⟨15, .phase⟩, ⟨16, .phase⟩, ⟨17, .phase⟩, ⟨18, .phase⟩], none⟩) rfl (fun K hK => ?_) AllReadyH.nil
                    rw [if_pos (by rfl)]
                    rw [← HMAe.out]
                    refine wp_store_row 125 _ _ rfl b MA rfl rfl 125 _ HROW.out HMAI.out (HP4.out.trans HMA4.out.symm) HMA1.out ?_
                    have hHeld2 := hHeld.below (below_setRow (Below.refl b V) (Nat.le_refl _) MA) hb
                    refine hK.out _ _ hHeld2 (fun _ => ?_)
                    clear hK K
                    try simp only [Act.put, qT, q0, qS]
                    refine wpAnyH_done (by kernel_rfl) ?_ _
                    exact ⟨rfl, rfl⟩
                · go_wp2_with fail
                  refine hK.out _ _ hHeld (fun _ => ?_)
                  clear hK K
                  try simp only [Act.put, qT, q0, qS]
                  refine wpAnyH_take (i := 16) (oi := ⟨some 60, .indexAddr 109 (.tmp 3) (.tmp 59), 0, _, #[⟨15, .data⟩], none⟩) (v := .pointer (some ⟨w.heap.size + 1, x0.toNat, none⟩)) rfl (by kernel_rfl) (by kernel_rfl) (by kernel_rfl) (fun _ _ _ h => h) (Or.inl ⟨by rfl, fun w' hw' => ?_⟩) hHeld ?_
                  · first | (go_simp; done) | (go_simp; rfl)
                  try simp only [Act.put, qT, q0, qS]
                  refine wpAnyH_take (i := 17) (oi := ⟨some 61, .load 5 (.tmp 60), 5, _, #[⟨16, .data⟩], none⟩) (v := .int .u8 (y0.toNat : Int)) rfl (by kernel_rfl) (by kernel_rfl) (by kernel_rfl) (fun _ _ _ h => h) (Or.inl ⟨by rfl, fun w' hw' => ?_⟩) hHeld ?_
                  · have hcc := HT0.out w' hw'; first | (go_simp; done) | (go_simp; rfl)
                  try simp only [Act.put, qT, q0, qS]
                  refine wpAnyH_ready (rs := [1, 7]) (by kernel_rfl) (by simp) ?_
                  refine AllReadyH.cons (o := ⟨some 45, .load 5 (.tmp 44), 5, _, #[⟨0, .data⟩], none⟩) rfl (fun K hK => ?_) (AllReadyH.cons (o := ⟨some 51, .load 5 (.tmp 50), 5, _, #[⟨6, .data⟩], none⟩) rfl (fun K hK => ?_) AllReadyH.nil)
                  all_goals rw [if_pos (by rfl)]
                  · go_wp2_with fail
                    refine hK.out _ _ hHeld (fun _ => ?_)
                    clear hK K
                    try simp only [Act.put, qT, q0, qS]
                    refine wpAnyH_take (i := 2) (oi := ⟨some 46, .indexAddr 109 (.tmp 3) (.tmp 45), 0, _, #[⟨1, .data⟩], none⟩) (v := .pointer (some ⟨w.heap.size + 1, x1.toNat, none⟩)) rfl (by kernel_rfl) (by kernel_rfl) (by kernel_rfl) (fun _ _ _ h => h) (Or.inl ⟨by rfl, fun w' hw' => ?_⟩) hHeld ?_
                    · first | (go_simp; done) | (go_simp; rfl)
                    try simp only [Act.put, qT, q0, qS]
                    refine wpAnyH_take (i := 3) (oi := ⟨some 47, .load 5 (.tmp 46), 5, _, #[⟨2, .data⟩], none⟩) (v := .int .u8 (y1.toNat : Int)) rfl (by kernel_rfl) (by kernel_rfl) (by kernel_rfl) (fun _ _ _ h => h) (Or.inl ⟨by rfl, fun w' hw' => ?_⟩) hHeld ?_
                    · have hcc := HT1.out w' hw'; first | (go_simp; done) | (go_simp; rfl)
                    try simp only [Act.put, qT, q0, qS]
                    refine wpAnyH_take (i := 5) (oi := ⟨some 49, .binOp .xor 5 (.tmp 47) (.tmp 48) 5, 5, _, #[⟨3, .data⟩, ⟨4, .data⟩], none⟩) (v := .int .u8 (z1.toNat : Int)) rfl (by kernel_rfl) (by kernel_rfl) (by kernel_rfl) (fun _ _ _ h => h) (Or.inl ⟨by rfl, fun w' hw' => ?_⟩) hHeld ?_
                    · first | (go_simp; done) | (go_simp; rfl)
                    try simp only [Act.put, qT, q0, qS]
                    refine wpAnyH_ready (rs := [7]) (by kernel_rfl) (by simp) ?_
                    refine AllReadyH.cons (o := ⟨some 51, .load 5 (.tmp 50), 5, _, #[⟨6, .data⟩], none⟩) rfl (fun K hK => ?_) AllReadyH.nil
                    rw [if_pos (by rfl)]
                    go_wp2_with fail
                    refine hK.out _ _ hHeld (fun _ => ?_)
                    clear hK K
                    try simp only [Act.put, qT, q0, qS]
                    refine wpAnyH_take (i := 8) (oi := ⟨some 52, .indexAddr 109 (.tmp 3) (.tmp 51), 0, _, #[⟨7, .data⟩], none⟩) (v := .pointer (some ⟨w.heap.size + 1, x2.toNat, none⟩)) rfl (by kernel_rfl) (by kernel_rfl) (by kernel_rfl) (fun _ _ _ h => h) (Or.inl ⟨by rfl, fun w' hw' => ?_⟩) hHeld ?_
                    · first | (go_simp; done) | (go_simp; rfl)
                    try simp only [Act.put, qT, q0, qS]
                    refine wpAnyH_take (i := 9) (oi := ⟨some 53, .load 5 (.tmp 52), 5, _, #[⟨8, .data⟩], none⟩) (v := .int .u8 (y2.toNat : Int)) rfl (by kernel_rfl) (by kernel_rfl) (by kernel_rfl) (fun _ _ _ h => h) (Or.inl ⟨by rfl, fun w' hw' => ?_⟩) hHeld ?_
                    · have hcc := HT2.out w' hw'; first | (go_simp; done) | (go_simp; rfl)
                    try simp only [Act.put, qT, q0, qS]
                    refine wpAnyH_take (i := 18) (oi := ⟨some 62, .build 125 #[(0, .tmp 49), (1, .tmp 53), (2, .tmp 57), (3, .tmp 61)], 125, _, #[⟨5, .data⟩, ⟨9, .data⟩, ⟨13, .data⟩, ⟨17, .data⟩], none⟩) (v := .agg #[.int .u8 (z1.toNat : Int), .int .u8 (y2.toNat : Int), .int .u8 (y3.toNat : Int), .int .u8 (y0.toNat : Int)]) rfl (by kernel_rfl) (by kernel_rfl) (by kernel_rfl) (fun _ _ _ h => h) (Or.inl ⟨by rfl, fun w' hw' => ?_⟩) hHeld ?_
                    · first | (go_simp; done) | (go_simp; rfl)
                    try simp only [Act.put, qT, q0, qS]
                    refine wpAnyH_ready (rs := [19]) (by kernel_rfl) (by simp) ?_
                    refine AllReadyH.cons (o := ⟨none, .store 125 (.tmp 10) (.tmp 62), 0, _, #[⟨18, .data⟩, ⟨0, .phase⟩, ⟨1, .phase⟩, ⟨2, .phase⟩, ⟨3, .phase⟩, ⟨4, .phase⟩, ⟨5, .phase⟩, ⟨6, .phase⟩, ⟨7, .phase⟩, ⟨8, .phase⟩, ⟨9, .phase⟩, ⟨10, .phase⟩, ⟨11, .phase⟩, ⟨12, .phase⟩, ⟨13, .phase⟩, ⟨14, .phase⟩, ⟨15, .phase⟩, ⟨16, .phase⟩, ⟨17, .phase⟩, ⟨18, .phase⟩], none⟩) rfl (fun K hK => ?_) AllReadyH.nil
                    rw [if_pos (by rfl)]
                    rw [← HMAe.out]
                    refine wp_store_row 125 _ _ rfl b MA rfl rfl 125 _ HROW.out HMAI.out (HP4.out.trans HMA4.out.symm) HMA1.out ?_
                    have hHeld2 := hHeld.below (below_setRow (Below.refl b V) (Nat.le_refl _) MA) hb
                    refine hK.out _ _ hHeld2 (fun _ => ?_)
                    clear hK K
                    try simp only [Act.put, qT, q0, qS]
                    refine wpAnyH_done (by kernel_rfl) ?_ _
                    exact ⟨rfl, rfl⟩
                  · go_wp2_with fail
                    refine hK.out _ _ hHeld (fun _ => ?_)
                    clear hK K
                    try simp only [Act.put, qT, q0, qS]
                    refine wpAnyH_take (i := 8) (oi := ⟨some 52, .indexAddr 109 (.tmp 3) (.tmp 51), 0, _, #[⟨7, .data⟩], none⟩) (v := .pointer (some ⟨w.heap.size + 1, x2.toNat, none⟩)) rfl (by kernel_rfl) (by kernel_rfl) (by kernel_rfl) (fun _ _ _ h => h) (Or.inl ⟨by rfl, fun w' hw' => ?_⟩) hHeld ?_
                    · first | (go_simp; done) | (go_simp; rfl)
                    try simp only [Act.put, qT, q0, qS]
                    refine wpAnyH_take (i := 9) (oi := ⟨some 53, .load 5 (.tmp 52), 5, _, #[⟨8, .data⟩], none⟩) (v := .int .u8 (y2.toNat : Int)) rfl (by kernel_rfl) (by kernel_rfl) (by kernel_rfl) (fun _ _ _ h => h) (Or.inl ⟨by rfl, fun w' hw' => ?_⟩) hHeld ?_
                    · have hcc := HT2.out w' hw'; first | (go_simp; done) | (go_simp; rfl)
                    try simp only [Act.put, qT, q0, qS]
                    refine wpAnyH_ready (rs := [1]) (by kernel_rfl) (by simp) ?_
                    refine AllReadyH.cons (o := ⟨some 45, .load 5 (.tmp 44), 5, _, #[⟨0, .data⟩], none⟩) rfl (fun K hK => ?_) AllReadyH.nil
                    rw [if_pos (by rfl)]
                    go_wp2_with fail
                    refine hK.out _ _ hHeld (fun _ => ?_)
                    clear hK K
                    try simp only [Act.put, qT, q0, qS]
                    refine wpAnyH_take (i := 2) (oi := ⟨some 46, .indexAddr 109 (.tmp 3) (.tmp 45), 0, _, #[⟨1, .data⟩], none⟩) (v := .pointer (some ⟨w.heap.size + 1, x1.toNat, none⟩)) rfl (by kernel_rfl) (by kernel_rfl) (by kernel_rfl) (fun _ _ _ h => h) (Or.inl ⟨by rfl, fun w' hw' => ?_⟩) hHeld ?_
                    · first | (go_simp; done) | (go_simp; rfl)
                    try simp only [Act.put, qT, q0, qS]
                    refine wpAnyH_take (i := 3) (oi := ⟨some 47, .load 5 (.tmp 46), 5, _, #[⟨2, .data⟩], none⟩) (v := .int .u8 (y1.toNat : Int)) rfl (by kernel_rfl) (by kernel_rfl) (by kernel_rfl) (fun _ _ _ h => h) (Or.inl ⟨by rfl, fun w' hw' => ?_⟩) hHeld ?_
                    · have hcc := HT1.out w' hw'; first | (go_simp; done) | (go_simp; rfl)
                    try simp only [Act.put, qT, q0, qS]
                    refine wpAnyH_take (i := 5) (oi := ⟨some 49, .binOp .xor 5 (.tmp 47) (.tmp 48) 5, 5, _, #[⟨3, .data⟩, ⟨4, .data⟩], none⟩) (v := .int .u8 (z1.toNat : Int)) rfl (by kernel_rfl) (by kernel_rfl) (by kernel_rfl) (fun _ _ _ h => h) (Or.inl ⟨by rfl, fun w' hw' => ?_⟩) hHeld ?_
                    · first | (go_simp; done) | (go_simp; rfl)
                    try simp only [Act.put, qT, q0, qS]
                    refine wpAnyH_take (i := 18) (oi := ⟨some 62, .build 125 #[(0, .tmp 49), (1, .tmp 53), (2, .tmp 57), (3, .tmp 61)], 125, _, #[⟨5, .data⟩, ⟨9, .data⟩, ⟨13, .data⟩, ⟨17, .data⟩], none⟩) (v := .agg #[.int .u8 (z1.toNat : Int), .int .u8 (y2.toNat : Int), .int .u8 (y3.toNat : Int), .int .u8 (y0.toNat : Int)]) rfl (by kernel_rfl) (by kernel_rfl) (by kernel_rfl) (fun _ _ _ h => h) (Or.inl ⟨by rfl, fun w' hw' => ?_⟩) hHeld ?_
                    · first | (go_simp; done) | (go_simp; rfl)
                    try simp only [Act.put, qT, q0, qS]
                    refine wpAnyH_ready (rs := [19]) (by kernel_rfl) (by simp) ?_
                    refine AllReadyH.cons (o := ⟨none, .store 125 (.tmp 10) (.tmp 62), 0, _, #[⟨18, .data⟩, ⟨0, .phase⟩, ⟨1, .phase⟩, ⟨2, .phase⟩, ⟨3, .phase⟩, ⟨4, .phase⟩, ⟨5, .phase⟩, ⟨6, .phase⟩, ⟨7, .phase⟩, ⟨8, .phase⟩, ⟨9, .phase⟩, ⟨10, .phase⟩, ⟨11, .phase⟩, ⟨12, .phase⟩, ⟨13, .phase⟩, ⟨14, .phase⟩, ⟨15, .phase⟩, ⟨16, .phase⟩, ⟨17, .phase⟩, ⟨18, .phase⟩], none⟩) rfl (fun K hK => ?_) AllReadyH.nil
                    rw [if_pos (by rfl)]
                    rw [← HMAe.out]
                    refine wp_store_row 125 _ _ rfl b MA rfl rfl 125 _ HROW.out HMAI.out (HP4.out.trans HMA4.out.symm) HMA1.out ?_
                    have hHeld2 := hHeld.below (below_setRow (Below.refl b V) (Nat.le_refl _) MA) hb
                    refine hK.out _ _ hHeld2 (fun _ => ?_)
                    clear hK K
                    try simp only [Act.put, qT, q0, qS]
                    refine wpAnyH_done (by kernel_rfl) ?_ _
                    exact ⟨rfl, rfl⟩
              · go_wp2_with fail
                refine hK.out _ _ hHeld (fun _ => ?_)
                clear hK K
                try simp only [Act.put, qT, q0, qS]
                refine wpAnyH_take (i := 16) (oi := ⟨some 60, .indexAddr 109 (.tmp 3) (.tmp 59), 0, _, #[⟨15, .data⟩], none⟩) (v := .pointer (some ⟨w.heap.size + 1, x0.toNat, none⟩)) rfl (by kernel_rfl) (by kernel_rfl) (by kernel_rfl) (fun _ _ _ h => h) (Or.inl ⟨by rfl, fun w' hw' => ?_⟩) hHeld ?_
                · first | (go_simp; done) | (go_simp; rfl)
                try simp only [Act.put, qT, q0, qS]
                refine wpAnyH_take (i := 17) (oi := ⟨some 61, .load 5 (.tmp 60), 5, _, #[⟨16, .data⟩], none⟩) (v := .int .u8 (y0.toNat : Int)) rfl (by kernel_rfl) (by kernel_rfl) (by kernel_rfl) (fun _ _ _ h => h) (Or.inl ⟨by rfl, fun w' hw' => ?_⟩) hHeld ?_
                · have hcc := HT0.out w' hw'; first | (go_simp; done) | (go_simp; rfl)
                try simp only [Act.put, qT, q0, qS]
                refine wpAnyH_ready (rs := [1, 7, 11]) (by kernel_rfl) (by simp) ?_
                refine AllReadyH.cons (o := ⟨some 45, .load 5 (.tmp 44), 5, _, #[⟨0, .data⟩], none⟩) rfl (fun K hK => ?_) (AllReadyH.cons (o := ⟨some 51, .load 5 (.tmp 50), 5, _, #[⟨6, .data⟩], none⟩) rfl (fun K hK => ?_) (AllReadyH.cons (o := ⟨some 55, .load 5 (.tmp 54), 5, _, #[⟨10, .data⟩], none⟩) rfl (fun K hK => ?_) AllReadyH.nil))
                all_goals rw [if_pos (by rfl)]
                · go_wp2_with fail
                  refine hK.out _ _ hHeld (fun _ => ?_)
                  clear hK K
                  try simp only [Act.put, qT, q0, qS]
                  refine wpAnyH_take (i := 2) (oi := ⟨some 46, .indexAddr 109 (.tmp 3) (.tmp 45), 0, _, #[⟨1, .data⟩], none⟩) (v := .pointer (some ⟨w.heap.size + 1, x1.toNat, none⟩)) rfl (by kernel_rfl) (by kernel_rfl) (by kernel_rfl) (fun _ _ _ h => h) (Or.inl ⟨by rfl, fun w' hw' => ?_⟩) hHeld ?_
                  · first | (go_simp; done) | (go_simp; rfl)
                  try simp only [Act.put, qT, q0, qS]
                  refine wpAnyH_take (i := 3) (oi := ⟨some 47, .load 5 (.tmp 46), 5, _, #[⟨2, .data⟩], none⟩) (v := .int .u8 (y1.toNat : Int)) rfl (by kernel_rfl) (by kernel_rfl) (by kernel_rfl) (fun _ _ _ h => h) (Or.inl ⟨by rfl, fun w' hw' => ?_⟩) hHeld ?_
                  · have hcc := HT1.out w' hw'; first | (go_simp; done) | (go_simp; rfl)
                  try simp only [Act.put, qT, q0, qS]
                  refine wpAnyH_take (i := 5) (oi := ⟨some 49, .binOp .xor 5 (.tmp 47) (.tmp 48) 5, 5, _, #[⟨3, .data⟩, ⟨4, .data⟩], none⟩) (v := .int .u8 (z1.toNat : Int)) rfl (by kernel_rfl) (by kernel_rfl) (by kernel_rfl) (fun _ _ _ h => h) (Or.inl ⟨by rfl, fun w' hw' => ?_⟩) hHeld ?_
                  · first | (go_simp; done) | (go_simp; rfl)
                  try simp only [Act.put, qT, q0, qS]
                  refine wpAnyH_ready (rs := [7, 11]) (by kernel_rfl) (by simp) ?_
                  refine AllReadyH.cons (o := ⟨some 51, .load 5 (.tmp 50), 5, _, #[⟨6, .data⟩], none⟩) rfl (fun K hK => ?_) (AllReadyH.cons (o := ⟨some 55, .load 5 (.tmp 54), 5, _, #[⟨10, .data⟩], none⟩) rfl (fun K hK => ?_) AllReadyH.nil)
                  all_goals rw [if_pos (by rfl)]
                  · go_wp2_with fail
                    refine hK.out _ _ hHeld (fun _ => ?_)
                    clear hK K
                    try simp only [Act.put, qT, q0, qS]
                    refine wpAnyH_take (i := 8) (oi := ⟨some 52, .indexAddr 109 (.tmp 3) (.tmp 51), 0, _, #[⟨7, .data⟩], none⟩) (v := .pointer (some ⟨w.heap.size + 1, x2.toNat, none⟩)) rfl (by kernel_rfl) (by kernel_rfl) (by kernel_rfl) (fun _ _ _ h => h) (Or.inl ⟨by rfl, fun w' hw' => ?_⟩) hHeld ?_
                    · first | (go_simp; done) | (go_simp; rfl)
                    try simp only [Act.put, qT, q0, qS]
                    refine wpAnyH_take (i := 9) (oi := ⟨some 53, .load 5 (.tmp 52), 5, _, #[⟨8, .data⟩], none⟩) (v := .int .u8 (y2.toNat : Int)) rfl (by kernel_rfl) (by kernel_rfl) (by kernel_rfl) (fun _ _ _ h => h) (Or.inl ⟨by rfl, fun w' hw' => ?_⟩) hHeld ?_
                    · have hcc := HT2.out w' hw'; first | (go_simp; done) | (go_simp; rfl)
                    try simp only [Act.put, qT, q0, qS]
                    refine wpAnyH_ready (rs := [11]) (by kernel_rfl) (by simp) ?_
                    refine AllReadyH.cons (o := ⟨some 55, .load 5 (.tmp 54), 5, _, #[⟨10, .data⟩], none⟩) rfl (fun K hK => ?_) AllReadyH.nil
                    rw [if_pos (by rfl)]
                    go_wp2_with fail
                    refine hK.out _ _ hHeld (fun _ => ?_)
                    clear hK K
                    try simp only [Act.put, qT, q0, qS]
                    refine wpAnyH_take (i := 12) (oi := ⟨some 56, .indexAddr 109 (.tmp 3) (.tmp 55), 0, _, #[⟨11, .data⟩], none⟩) (v := .pointer (some ⟨w.heap.size + 1, x3.toNat, none⟩)) rfl (by kernel_rfl) (by kernel_rfl) (by kernel_rfl) (fun _ _ _ h => h) (Or.inl ⟨by rfl, fun w' hw' => ?_⟩) hHeld ?_
                    · first | (go_simp; done) | (go_simp; rfl)
                    try simp only [Act.put, qT, q0, qS]
                    refine wpAnyH_take (i := 13) (oi := ⟨some 57, .load 5 (.tmp 56), 5, _, #[⟨12, .data⟩], none⟩) (v := .int .u8 (y3.toNat : Int)) rfl (by kernel_rfl) (by kernel_rfl) (by kernel_rfl) (fun _ _ _ h => h) (Or.inl ⟨by rfl, fun w' hw' => ?_⟩) hHeld ?_
                    · have hcc := HT3.out w' hw'; first | (go_simp; done) | (go_simp; rfl)
                    try simp only [Act.put, qT, q0, qS]
                    refine wpAnyH_take (i := 18) (oi := ⟨some 62, .build 125 #[(0, .tmp 49), (1, .tmp 53), (2, .tmp 57), (3, .tmp 61)], 125, _, #[⟨5, .data⟩, ⟨9, .data⟩, ⟨13, .data⟩, ⟨17, .data⟩], none⟩) (v := .agg #[.int .u8 (z1.toNat : Int), .int .u8 (y2.toNat : Int), .int .u8 (y3.toNat : Int), .int .u8 (y0.toNat : Int)]) rfl (by kernel_rfl) (by kernel_rfl) (by kernel_rfl) (fun _ _ _ h => h) (Or.inl ⟨by rfl, fun w' hw' => ?_⟩) hHeld ?_
                    · first | (go_simp; done) | (go_simp; rfl)
                    try simp only [Act.put, qT, q0, qS]
                    refine wpAnyH_ready (rs := [19]) (by kernel_rfl) (by simp) ?_
                    refine AllReadyH.cons (o := ⟨none, .store 125 (.tmp 10) (.tmp 62), 0, _, #[⟨18, .data⟩, ⟨0, .phase⟩, ⟨1, .phase⟩, ⟨2, .phase⟩, ⟨3, .phase⟩, ⟨4, .phase⟩, ⟨5, .phase⟩, ⟨6, .phase⟩, ⟨7, .phase⟩, ⟨8, .phase⟩, ⟨9, .phase⟩, ⟨10, .phase⟩, ⟨11, .phase⟩, ⟨12, .phase⟩, ⟨13, .phase⟩, ⟨14, .phase⟩, ⟨15, .phase⟩, ⟨16, .phase⟩, ⟨17, .phase⟩, ⟨18, .phase⟩], none⟩) rfl (fun K hK => ?_) AllReadyH.nil
                    rw [if_pos (by rfl)]
                    rw [← HMAe.out]
                    refine wp_store_row 125 _ _ rfl b MA rfl rfl 125 _ HROW.out HMAI.out (HP4.out.trans HMA4.out.symm) HMA1.out ?_
                    have hHeld2 := hHeld.below (below_setRow (Below.refl b V) (Nat.le_refl _) MA) hb
                    refine hK.out _ _ hHeld2 (fun _ => ?_)
                    clear hK K
                    try simp only [Act.put, qT, q0, qS]
                    refine wpAnyH_done (by kernel_rfl) ?_ _
                    exact ⟨rfl, rfl⟩
                  · go_wp2_with fail
                    refine hK.out _ _ hHeld (fun _ => ?_)
                    clear hK K
                    try simp only [Act.put, qT, q0, qS]
                    refine wpAnyH_take (i := 12) (oi := ⟨some 56, .indexAddr 109 (.tmp 3) (.tmp 55), 0, _, #[⟨11, .data⟩], none⟩) (v := .pointer (some ⟨w.heap.size + 1, x3.toNat, none⟩)) rfl (by kernel_rfl) (by kernel_rfl) (by kernel_rfl) (fun _ _ _ h => h) (Or.inl ⟨by rfl, fun w' hw' => ?_⟩) hHeld ?_
                    · first | (go_simp; done) | (go_simp; rfl)
                    try simp only [Act.put, qT, q0, qS]
                    refine wpAnyH_take (i := 13) (oi := ⟨some 57, .load 5 (.tmp 56), 5, _, #[⟨12, .data⟩], none⟩) (v := .int .u8 (y3.toNat : Int)) rfl (by kernel_rfl) (by kernel_rfl) (by kernel_rfl) (fun _ _ _ h => h) (Or.inl ⟨by rfl, fun w' hw' => ?_⟩) hHeld ?_
                    · have hcc := HT3.out w' hw'; first | (go_simp; done) | (go_simp; rfl)
                    try simp only [Act.put, qT, q0, qS]
                    refine wpAnyH_ready (rs := [7]) (by kernel_rfl) (by simp) ?_
                    refine AllReadyH.cons (o := ⟨some 51, .load 5 (.tmp 50), 5, _, #[⟨6, .data⟩], none⟩) rfl (fun K hK => ?_) AllReadyH.nil
                    rw [if_pos (by rfl)]
                    go_wp2_with fail
                    refine hK.out _ _ hHeld (fun _ => ?_)
                    clear hK K
                    try simp only [Act.put, qT, q0, qS]
                    refine wpAnyH_take (i := 8) (oi := ⟨some 52, .indexAddr 109 (.tmp 3) (.tmp 51), 0, _, #[⟨7, .data⟩], none⟩) (v := .pointer (some ⟨w.heap.size + 1, x2.toNat, none⟩)) rfl (by kernel_rfl) (by kernel_rfl) (by kernel_rfl) (fun _ _ _ h => h) (Or.inl ⟨by rfl, fun w' hw' => ?_⟩) hHeld ?_
                    · first | (go_simp; done) | (go_simp; rfl)
                    try simp only [Act.put, qT, q0, qS]
                    refine wpAnyH_take (i := 9) (oi := ⟨some 53, .load 5 (.tmp 52), 5, _, #[⟨8, .data⟩], none⟩) (v := .int .u8 (y2.toNat : Int)) rfl (by kernel_rfl) (by kernel_rfl) (by kernel_rfl) (fun _ _ _ h => h) (Or.inl ⟨by rfl, fun w' hw' => ?_⟩) hHeld ?_
                    · have hcc := HT2.out w' hw'; first | (go_simp; done) | (go_simp; rfl)
                    try simp only [Act.put, qT, q0, qS]
                    refine wpAnyH_take (i := 18) (oi := ⟨some 62, .build 125 #[(0, .tmp 49), (1, .tmp 53), (2, .tmp 57), (3, .tmp 61)], 125, _, #[⟨5, .data⟩, ⟨9, .data⟩, ⟨13, .data⟩, ⟨17, .data⟩], none⟩) (v := .agg #[.int .u8 (z1.toNat : Int), .int .u8 (y2.toNat : Int), .int .u8 (y3.toNat : Int), .int .u8 (y0.toNat : Int)]) rfl (by kernel_rfl) (by kernel_rfl) (by kernel_rfl) (fun _ _ _ h => h) (Or.inl ⟨by rfl, fun w' hw' => ?_⟩) hHeld ?_
                    · first | (go_simp; done) | (go_simp; rfl)
                    try simp only [Act.put, qT, q0, qS]
                    refine wpAnyH_ready (rs := [19]) (by kernel_rfl) (by simp) ?_
                    refine AllReadyH.cons (o := ⟨none, .store 125 (.tmp 10) (.tmp 62), 0, _, #[⟨18, .data⟩, ⟨0, .phase⟩, ⟨1, .phase⟩, ⟨2, .phase⟩, ⟨3, .phase⟩, ⟨4, .phase⟩, ⟨5, .phase⟩, ⟨6, .phase⟩, ⟨7, .phase⟩, ⟨8, .phase⟩, ⟨9, .phase⟩, ⟨10, .phase⟩, ⟨11, .phase⟩, ⟨12, .phase⟩, ⟨13, .phase⟩, ⟨14, .phase⟩, ⟨15, .phase⟩, ⟨16, .phase⟩, ⟨17, .phase⟩, ⟨18, .phase⟩], none⟩) rfl (fun K hK => ?_) AllReadyH.nil
                    rw [if_pos (by rfl)]
                    rw [← HMAe.out]
                    refine wp_store_row 125 _ _ rfl b MA rfl rfl 125 _ HROW.out HMAI.out (HP4.out.trans HMA4.out.symm) HMA1.out ?_
                    have hHeld2 := hHeld.below (below_setRow (Below.refl b V) (Nat.le_refl _) MA) hb
                    refine hK.out _ _ hHeld2 (fun _ => ?_)
                    clear hK K
                    try simp only [Act.put, qT, q0, qS]
                    refine wpAnyH_done (by kernel_rfl) ?_ _
                    exact ⟨rfl, rfl⟩
                · go_wp2_with fail
                  refine hK.out _ _ hHeld (fun _ => ?_)
                  clear hK K
                  try simp only [Act.put, qT, q0, qS]
                  refine wpAnyH_take (i := 8) (oi := ⟨some 52, .indexAddr 109 (.tmp 3) (.tmp 51), 0, _, #[⟨7, .data⟩], none⟩) (v := .pointer (some ⟨w.heap.size + 1, x2.toNat, none⟩)) rfl (by kernel_rfl) (by kernel_rfl) (by kernel_rfl) (fun _ _ _ h => h) (Or.inl ⟨by rfl, fun w' hw' => ?_⟩) hHeld ?_
                  · first | (go_simp; done) | (go_simp; rfl)
                  try simp only [Act.put, qT, q0, qS]
                  refine wpAnyH_take (i := 9) (oi := ⟨some 53, .load 5 (.tmp 52), 5, _, #[⟨8, .data⟩], none⟩) (v := .int .u8 (y2.toNat : Int)) rfl (by kernel_rfl) (by kernel_rfl) (by kernel_rfl) (fun _ _ _ h => h) (Or.inl ⟨by rfl, fun w' hw' => ?_⟩) hHeld ?_
                  · have hcc := HT2.out w' hw'; first | (go_simp; done) | (go_simp; rfl)
                  try simp only [Act.put, qT, q0, qS]
                  refine wpAnyH_ready (rs := [1, 11]) (by kernel_rfl) (by simp) ?_
                  refine AllReadyH.cons (o := ⟨some 45, .load 5 (.tmp 44), 5, _, #[⟨0, .data⟩], none⟩) rfl (fun K hK => ?_) (AllReadyH.cons (o := ⟨some 55, .load 5 (.tmp 54), 5, _, #[⟨10, .data⟩], none⟩) rfl (fun K hK => ?_) AllReadyH.nil)
                  all_goals rw [if_pos (by rfl)]
                  · go_wp2_with fail
                    refine hK.out _ _ hHeld (fun _ => ?_)
                    clear hK K
                    try simp only [Act.put, qT, q0, qS]
                    refine wpAnyH_take (i := 2) (oi := ⟨some 46, .indexAddr 109 (.tmp 3) (.tmp 45), 0, _, #[⟨1, .data⟩], none⟩) (v := .pointer (some ⟨w.heap.size + 1, x1.toNat, none⟩)) rfl (by kernel_rfl) (by kernel_rfl) (by kernel_rfl) (fun _ _ _ h => h) (Or.inl ⟨by rfl, fun w' hw' => ?_⟩) hHeld ?_
                    · first | (go_simp; done) | (go_simp; rfl)
                    try simp only [Act.put, qT, q0, qS]
                    refine wpAnyH_take (i := 3) (oi := ⟨some 47, .load 5 (.tmp 46), 5, _, #[⟨2, .data⟩], none⟩) (v := .int .u8 (y1.toNat : Int)) rfl (by kernel_rfl) (by kernel_rfl) (by kernel_rfl) (fun _ _ _ h => h) (Or.inl ⟨by rfl, fun w' hw' => ?_⟩) hHeld ?_
                    · have hcc := HT1.out w' hw'; first | (go_simp; done) | (go_simp; rfl)
                    try simp only [Act.put, qT, q0, qS]
                    refine wpAnyH_take (i := 5) (oi := ⟨some 49, .binOp .xor 5 (.tmp 47) (.tmp 48) 5, 5, _, #[⟨3, .data⟩, ⟨4, .data⟩], none⟩) (v := .int .u8 (z1.toNat : Int)) rfl (by kernel_rfl) (by kernel_rfl) (by kernel_rfl) (fun _ _ _ h => h) (Or.inl ⟨by rfl, fun w' hw' => ?_⟩) hHeld ?_
                    · first | (go_simp; done) | (go_simp; rfl)
                    try simp only [Act.put, qT, q0, qS]
                    refine wpAnyH_ready (rs := [11]) (by kernel_rfl) (by simp) ?_
                    refine AllReadyH.cons (o := ⟨some 55, .load 5 (.tmp 54), 5, _, #[⟨10, .data⟩], none⟩) rfl (fun K hK => ?_) AllReadyH.nil
                    rw [if_pos (by rfl)]
                    go_wp2_with fail
                    refine hK.out _ _ hHeld (fun _ => ?_)
                    clear hK K
                    try simp only [Act.put, qT, q0, qS]
                    refine wpAnyH_take (i := 12) (oi := ⟨some 56, .indexAddr 109 (.tmp 3) (.tmp 55), 0, _, #[⟨11, .data⟩], none⟩) (v := .pointer (some ⟨w.heap.size + 1, x3.toNat, none⟩)) rfl (by kernel_rfl) (by kernel_rfl) (by kernel_rfl) (fun _ _ _ h => h) (Or.inl ⟨by rfl, fun w' hw' => ?_⟩) hHeld ?_
                    · first | (go_simp; done) | (go_simp; rfl)
                    try simp only [Act.put, qT, q0, qS]
                    refine wpAnyH_take (i := 13) (oi := ⟨some 57, .load 5 (.tmp 56), 5, _, #[⟨12, .data⟩], none⟩) (v := .int .u8 (y3.toNat : Int)) rfl (by kernel_rfl) (by kernel_rfl) (by kernel_rfl) (fun _ _ _ h => h) (Or.inl ⟨by rfl, fun w' hw' => ?_⟩) hHeld ?_
                    · have hcc := HT3.out w' hw'; first | (go_simp; done) | (go_simp; rfl)
                    try simp only [Act.put, qT, q0, qS]
                    refine wpAnyH_take (i := 18) (oi := ⟨some 62, .build 125 #[(0, .tmp 49), (1, .tmp 53), (2, .tmp 57), (3, .tmp 61)], 125, _, #[⟨5, .data⟩, ⟨9, .data⟩, ⟨13, .data⟩, ⟨17, .data⟩], none⟩) (v := .agg #[.int .u8 (z1.toNat : Int), .int .u8 (y2.toNat : Int), .int .u8 (y3.toNat : Int), .int .u8 (y0.toNat : Int)]) rfl (by kernel_rfl) (by kernel_rfl) (by kernel_rfl) (fun _ _ _ h => h) (Or.inl ⟨by rfl, fun w' hw' => ?_⟩) hHeld ?_
                    · first | (go_simp; done) | (go_simp; rfl)
                    try simp only [Act.put, qT, q0, qS]
                    refine wpAnyH_ready (rs := [19]) (by kernel_rfl) (by simp) ?_
                    refine AllReadyH.cons (o := ⟨none, .store 125 (.tmp 10) (.tmp 62), 0, _, #[⟨18, .data⟩, ⟨0, .phase⟩, ⟨1, .phase⟩, ⟨2, .phase⟩, ⟨3, .phase⟩, ⟨4, .phase⟩, ⟨5, .phase⟩, ⟨6, .phase⟩, ⟨7, .phase⟩, ⟨8, .phase⟩, ⟨9, .phase⟩, ⟨10, .phase⟩, ⟨11, .phase⟩, ⟨12, .phase⟩, ⟨13, .phase⟩, ⟨14, .phase⟩, ⟨15, .phase⟩, ⟨16, .phase⟩, ⟨17, .phase⟩, ⟨18, .phase⟩], none⟩) rfl (fun K hK => ?_) AllReadyH.nil
                    rw [if_pos (by rfl)]
                    rw [← HMAe.out]
                    refine wp_store_row 125 _ _ rfl b MA rfl rfl 125 _ HROW.out HMAI.out (HP4.out.trans HMA4.out.symm) HMA1.out ?_
                    have hHeld2 := hHeld.below (below_setRow (Below.refl b V) (Nat.le_refl _) MA) hb
                    refine hK.out _ _ hHeld2 (fun _ => ?_)
                    clear hK K
                    try simp only [Act.put, qT, q0, qS]
                    refine wpAnyH_done (by kernel_rfl) ?_ _
                    exact ⟨rfl, rfl⟩
                  · go_wp2_with fail
                    refine hK.out _ _ hHeld (fun _ => ?_)
                    clear hK K
                    try simp only [Act.put, qT, q0, qS]
                    refine wpAnyH_take (i := 12) (oi := ⟨some 56, .indexAddr 109 (.tmp 3) (.tmp 55), 0, _, #[⟨11, .data⟩], none⟩) (v := .pointer (some ⟨w.heap.size + 1, x3.toNat, none⟩)) rfl (by kernel_rfl) (by kernel_rfl) (by kernel_rfl) (fun _ _ _ h => h) (Or.inl ⟨by rfl, fun w' hw' => ?_⟩) hHeld ?_
                    · first | (go_simp; done) | (go_simp; rfl)
                    try simp only [Act.put, qT, q0, qS]
                    refine wpAnyH_take (i := 13) (oi := ⟨some 57, .load 5 (.tmp 56), 5, _, #[⟨12, .data⟩], none⟩) (v := .int .u8 (y3.toNat : Int)) rfl (by kernel_rfl) (by kernel_rfl) (by kernel_rfl) (fun _ _ _ h => h) (Or.inl ⟨by rfl, fun w' hw' => ?_⟩) hHeld ?_
                    · have hcc := HT3.out w' hw'; first | (go_simp; done) | (go_simp; rfl)
                    try simp only [Act.put, qT, q0, qS]
                    refine wpAnyH_ready (rs := [1]) (by kernel_rfl) (by simp) ?_
                    refine AllReadyH.cons (o := ⟨some 45, .load 5 (.tmp 44), 5, _, #[⟨0, .data⟩], none⟩) rfl (fun K hK => ?_) AllReadyH.nil
                    rw [if_pos (by rfl)]
                    go_wp2_with fail
                    refine hK.out _ _ hHeld (fun _ => ?_)
                    clear hK K
                    try simp only [Act.put, qT, q0, qS]
                    refine wpAnyH_take (i := 2) (oi := ⟨some 46, .indexAddr 109 (.tmp 3) (.tmp 45), 0, _, #[⟨1, .data⟩], none⟩) (v := .pointer (some ⟨w.heap.size + 1, x1.toNat, none⟩)) rfl (by kernel_rfl) (by kernel_rfl) (by kernel_rfl) (fun _ _ _ h => h) (Or.inl ⟨by rfl, fun w' hw' => ?_⟩) hHeld ?_
                    · first | (go_simp; done) | (go_simp; rfl)
                    try simp only [Act.put, qT, q0, qS]
                    refine wpAnyH_take (i := 3) (oi := ⟨some 47, .load 5 (.tmp 46), 5, _, #[⟨2, .data⟩], none⟩) (v := .int .u8 (y1.toNat : Int)) rfl (by kernel_rfl) (by kernel_rfl) (by kernel_rfl) (fun _ _ _ h => h) (Or.inl ⟨by rfl, fun w' hw' => ?_⟩) hHeld ?_
                    · have hcc := HT1.out w' hw'; first | (go_simp; done) | (go_simp; rfl)
                    try simp only [Act.put, qT, q0, qS]
                    refine wpAnyH_take (i := 5) (oi := ⟨some 49, .binOp .xor 5 (.tmp 47) (.tmp 48) 5, 5, _, #[⟨3, .data⟩, ⟨4, .data⟩], none⟩) (v := .int .u8 (z1.toNat : Int)) rfl (by kernel_rfl) (by kernel_rfl) (by kernel_rfl) (fun _ _ _ h => h) (Or.inl ⟨by rfl, fun w' hw' => ?_⟩) hHeld ?_
                    · first | (go_simp; done) | (go_simp; rfl)
                    try simp only [Act.put, qT, q0, qS]
                    refine wpAnyH_take (i := 18) (oi := ⟨some 62, .build 125 #[(0, .tmp 49), (1, .tmp 53), (2, .tmp 57), (3, .tmp 61)], 125, _, #[⟨5, .data⟩, ⟨9, .data⟩, ⟨13, .data⟩, ⟨17, .data⟩], none⟩) (v := .agg #[.int .u8 (z1.toNat : Int), .int .u8 (y2.toNat : Int), .int .u8 (y3.toNat : Int), .int .u8 (y0.toNat : Int)]) rfl (by kernel_rfl) (by kernel_rfl) (by kernel_rfl) (fun _ _ _ h => h) (Or.inl ⟨by rfl, fun w' hw' => ?_⟩) hHeld ?_
                    · first | (go_simp; done) | (go_simp; rfl)
                    try simp only [Act.put, qT, q0, qS]
                    refine wpAnyH_ready (rs := [19]) (by kernel_rfl) (by simp) ?_
                    refine AllReadyH.cons (o := ⟨none, .store 125 (.tmp 10) (.tmp 62), 0, _, #[⟨18, .data⟩, ⟨0, .phase⟩, ⟨1, .phase⟩, ⟨2, .phase⟩, ⟨3, .phase⟩, ⟨4, .phase⟩, ⟨5, .phase⟩, ⟨6, .phase⟩, ⟨7, .phase⟩, ⟨8, .phase⟩, ⟨9, .phase⟩, ⟨10, .phase⟩, ⟨11, .phase⟩, ⟨12, .phase⟩, ⟨13, .phase⟩, ⟨14, .phase⟩, ⟨15, .phase⟩, ⟨16, .phase⟩, ⟨17, .phase⟩, ⟨18, .phase⟩], none⟩) rfl (fun K hK => ?_) AllReadyH.nil
                    rw [if_pos (by rfl)]
                    rw [← HMAe.out]
                    refine wp_store_row 125 _ _ rfl b MA rfl rfl 125 _ HROW.out HMAI.out (HP4.out.trans HMA4.out.symm) HMA1.out ?_
                    have hHeld2 := hHeld.below (below_setRow (Below.refl b V) (Nat.le_refl _) MA) hb
                    refine hK.out _ _ hHeld2 (fun _ => ?_)
                    clear hK K
                    try simp only [Act.put, qT, q0, qS]
                    refine wpAnyH_done (by kernel_rfl) ?_ _
                    exact ⟨rfl, rfl⟩
                · go_wp2_with fail
                  refine hK.out _ _ hHeld (fun _ => ?_)
                  clear hK K
                  try simp only [Act.put, qT, q0, qS]
                  refine wpAnyH_take (i := 12) (oi := ⟨some 56, .indexAddr 109 (.tmp 3) (.tmp 55), 0, _, #[⟨11, .data⟩], none⟩) (v := .pointer (some ⟨w.heap.size + 1, x3.toNat, none⟩)) rfl (by kernel_rfl) (by kernel_rfl) (by kernel_rfl) (fun _ _ _ h => h) (Or.inl ⟨by rfl, fun w' hw' => ?_⟩) hHeld ?_
                  · first | (go_simp; done) | (go_simp; rfl)
                  try simp only [Act.put, qT, q0, qS]
                  refine wpAnyH_take (i := 13) (oi := ⟨some 57, .load 5 (.tmp 56), 5, _, #[⟨12, .data⟩], none⟩) (v := .int .u8 (y3.toNat : Int)) rfl (by kernel_rfl) (by kernel_rfl) (by kernel_rfl) (fun _ _ _ h => h) (Or.inl ⟨by rfl, fun w' hw' => ?_⟩) hHeld ?_
                  · have hcc := HT3.out w' hw'; first | (go_simp; done) | (go_simp; rfl)
                  try simp only [Act.put, qT, q0, qS]
                  refine wpAnyH_ready (rs := [1, 7]) (by kernel_rfl) (by simp) ?_
                  refine AllReadyH.cons (o := ⟨some 45, .load 5 (.tmp 44), 5, _, #[⟨0, .data⟩], none⟩) rfl (fun K hK => ?_) (AllReadyH.cons (o := ⟨some 51, .load 5 (.tmp 50), 5, _, #[⟨6, .data⟩], none⟩) rfl (fun K hK => ?_) AllReadyH.nil)
                  all_goals rw [if_pos (by rfl)]
                  · go_wp2_with fail
                    refine hK.out _ _ hHeld (fun _ => ?_)
                    clear hK K
                    try simp only [Act.put, qT, q0, qS]
                    refine wpAnyH_take (i := 2) (oi := ⟨some 46, .indexAddr 109 (.tmp 3) (.tmp 45), 0, _, #[⟨1, .data⟩], none⟩) (v := .pointer (some ⟨w.heap.size + 1, x1.toNat, none⟩)) rfl (by kernel_rfl) (by kernel_rfl) (by kernel_rfl) (fun _ _ _ h => h) (Or.inl ⟨by rfl, fun w' hw' => ?_⟩) hHeld ?_
                    · first | (go_simp; done) | (go_simp; rfl)
                    try simp only [Act.put, qT, q0, qS]
                    refine wpAnyH_take (i := 3) (oi := ⟨some 47, .load 5 (.tmp 46), 5, _, #[⟨2, .data⟩], none⟩) (v := .int .u8 (y1.toNat : Int)) rfl (by kernel_rfl) (by kernel_rfl) (by kernel_rfl) (fun _ _ _ h => h) (Or.inl ⟨by rfl, fun w' hw' => ?_⟩) hHeld ?_
                    · have hcc := HT1.out w' hw'; first | (go_simp; done) | (go_simp; rfl)
                    try simp only [Act.put, qT, q0, qS]
                    refine wpAnyH_take (i := 5) (oi := ⟨some 49, .binOp .xor 5 (.tmp 47) (.tmp 48) 5, 5, _, #[⟨3, .data⟩, ⟨4, .data⟩], none⟩) (v := .int .u8 (z1.toNat : Int)) rfl (by kernel_rfl) (by kernel_rfl) (by kernel_rfl) (fun _ _ _ h => h) (Or.inl ⟨by rfl, fun w' hw' => ?_⟩) hHeld ?_
                    · first | (go_simp; done) | (go_simp; rfl)
                    try simp only [Act.put, qT, q0, qS]
                    refine wpAnyH_ready (rs := [7]) (by kernel_rfl) (by simp) ?_
                    refine AllReadyH.cons (o := ⟨some 51, .load 5 (.tmp 50), 5, _, #[⟨6, .data⟩], none⟩) rfl (fun K hK => ?_) AllReadyH.nil
                    rw [if_pos (by rfl)]
                    go_wp2_with fail
                    refine hK.out _ _ hHeld (fun _ => ?_)
                    clear hK K
                    try simp only [Act.put, qT, q0, qS]
                    refine wpAnyH_take (i := 8) (oi := ⟨some 52, .indexAddr 109 (.tmp 3) (.tmp 51), 0, _, #[⟨7, .data⟩], none⟩) (v := .pointer (some ⟨w.heap.size + 1, x2.toNat, none⟩)) rfl (by kernel_rfl) (by kernel_rfl) (by kernel_rfl) (fun _ _ _ h => h) (Or.inl ⟨by rfl, fun w' hw' => ?_⟩) hHeld ?_
                    · first | (go_simp; done) | (go_simp; rfl)
                    try simp only [Act.put, qT, q0, qS]
                    refine wpAnyH_take (i := 9) (oi := ⟨some 53, .load 5 (.tmp 52), 5, _, #[⟨8, .data⟩], none⟩) (v := .int .u8 (y2.toNat : Int)) rfl (by kernel_rfl) (by kernel_rfl) (by kernel_rfl) (fun _ _ _ h => h) (Or.inl ⟨by rfl, fun w' hw' => ?_⟩) hHeld ?_
                    · have hcc := HT2.out w' hw'; first | (go_simp; done) | (go_simp; rfl)
                    try simp only [Act.put, qT, q0, qS]
                    refine wpAnyH_take (i := 18) (oi := ⟨some 62, .build 125 #[(0, .tmp 49), (1, .tmp 53), (2, .tmp 57), (3, .tmp 61)], 125, _, #[⟨5, .data⟩, ⟨9, .data⟩, ⟨13, .data⟩, ⟨17, .data⟩], none⟩) (v := .agg #[.int .u8 (z1.toNat : Int), .int .u8 (y2.toNat : Int), .int .u8 (y3.toNat : Int), .int .u8 (y0.toNat : Int)]) rfl (by kernel_rfl) (by kernel_rfl) (by kernel_rfl) (fun _ _ _ h => h) (Or.inl ⟨by rfl, fun w' hw' => ?_⟩) hHeld ?_
                    · first | (go_simp; done) | (go_simp; rfl)
                    try simp only [Act.put, qT, q0, qS]
                    refine wpAnyH_ready (rs := [19]) (by kernel_rfl) (by simp) ?_
                    refine AllReadyH.cons (o := ⟨none, .store 125 (.tmp 10) (.tmp 62), 0, _, #[⟨18, .data⟩, ⟨0, .phase⟩, ⟨1, .phase⟩, ⟨2, .phase⟩, ⟨3, .phase⟩, ⟨4, .phase⟩, ⟨5, .phase⟩, ⟨6, .phase⟩, ⟨7, .phase⟩, ⟨8, .phase⟩, ⟨9, .phase⟩, ⟨10, .phase⟩, ⟨11, .phase⟩, ⟨12, .phase⟩, ⟨13, .phase⟩, ⟨14, .phase⟩, ⟨15, .phase⟩, ⟨16, .phase⟩, ⟨17, .phase⟩, ⟨18, .phase⟩], none⟩) rfl (fun K hK => ?_) AllReadyH.nil
                    rw [if_pos (by rfl)]
                    rw [← HMAe.out]
                    refine wp_store_row 125 _ _ rfl b MA rfl rfl 125 _ HROW.out HMAI.out (HP4.out.trans HMA4.out.symm) HMA1.out ?_
                    have hHeld2 := hHeld.below (below_setRow (Below.refl b V) (Nat.le_refl _) MA) hb
                    refine hK.out _ _ hHeld2 (fun _ => ?_)
                    clear hK K
                    try simp only [Act.put, qT, q0, qS]
                    refine wpAnyH_done (by kernel_rfl) ?_ _
                    exact ⟨rfl, rfl⟩
                  · go_wp2_with fail
                    refine hK.out _ _ hHeld (fun _ => ?_)
                    clear hK K
                    try simp only [Act.put, qT, q0, qS]
                    refine wpAnyH_take (i := 8) (oi := ⟨some 52, .indexAddr 109 (.tmp 3) (.tmp 51), 0, _, #[⟨7, .data⟩], none⟩) (v := .pointer (some ⟨w.heap.size + 1, x2.toNat, none⟩)) rfl (by kernel_rfl) (by kernel_rfl) (by kernel_rfl) (fun _ _ _ h => h) (Or.inl ⟨by rfl, fun w' hw' => ?_⟩) hHeld ?_
                    · first | (go_simp; done) | (go_simp; rfl)
                    try simp only [Act.put, qT, q0, qS]
                    refine wpAnyH_take (i := 9) (oi := ⟨some 53, .load 5 (.tmp 52), 5, _, #[⟨8, .data⟩], none⟩) (v := .int .u8 (y2.toNat : Int)) rfl (by kernel_rfl) (by kernel_rfl) (by kernel_rfl) (fun _ _ _ h => h) (Or.inl ⟨by rfl, fun w' hw' => ?_⟩) hHeld ?_
                    · have hcc := HT2.out w' hw'; first | (go_simp; done) | (go_simp; rfl)
                    try simp only [Act.put, qT, q0, qS]
                    refine wpAnyH_ready (rs := [1]) (by kernel_rfl) (by simp) ?_
                    refine AllReadyH.cons (o := ⟨some 45, .load 5 (.tmp 44), 5, _, #[⟨0, .data⟩], none⟩) rfl (fun K hK => ?_) AllReadyH.nil
                    rw [if_pos (by rfl)]
                    go_wp2_with fail
                    refine hK.out _ _ hHeld (fun _ => ?_)
                    clear hK K
                    try simp only [Act.put, qT, q0, qS]
                    refine wpAnyH_take (i := 2) (oi := ⟨some 46, .indexAddr 109 (.tmp 3) (.tmp 45), 0, _, #[⟨1, .data⟩], none⟩) (v := .pointer (some ⟨w.heap.size + 1, x1.toNat, none⟩)) rfl (by kernel_rfl) (by kernel_rfl) (by kernel_rfl) (fun _ _ _ h => h) (Or.inl ⟨by rfl, fun w' hw' => ?_⟩) hHeld ?_
                    · first | (go_simp; done) | (go_simp; rfl)
                    try simp only [Act.put, qT, q0, qS]
                    refine wpAnyH_take (i := 3) (oi := ⟨some 47, .load 5 (.tmp 46), 5, _, #[⟨2, .data⟩], none⟩) (v := .int .u8 (y1.toNat : Int)) rfl (by kernel_rfl) (by kernel_rfl) (by kernel_rfl) (fun _ _ _ h => h) (Or.inl ⟨by rfl, fun w' hw' => ?_⟩) hHeld ?_
                    · have hcc := HT1.out w' hw'; first | (go_simp; done) | (go_simp; rfl)
                    try simp only [Act.put, qT, q0, qS]
                    refine wpAnyH_take (i := 5) (oi := ⟨some 49, .binOp .xor 5 (.tmp 47) (.tmp 48) 5, 5, _, #[⟨3, .data⟩, ⟨4, .data⟩], none⟩) (v := .int .u8 (z1.toNat : Int)) rfl (by kernel_rfl) (by kernel_rfl) (by kernel_rfl) (fun _ _ _ h => h) (Or.inl ⟨by rfl, fun w' hw' => ?_⟩) hHeld ?_
                    · first | (go_simp; done) | (go_simp; rfl)
                    try simp only [Act.put, qT, q0, qS]
                    refine wpAnyH_take (i := 18) (oi := ⟨some 62, .build 125 #[(0, .tmp 49), (1, .tmp 53), (2, .tmp 57), (3, .tmp 61)], 125, _, #[⟨5, .data⟩, ⟨9, .data⟩, ⟨13, .data⟩, ⟨17, .data⟩], none⟩) (v := .agg #[.int .u8 (z1.toNat : Int), .int .u8 (y2.toNat : Int), .int .u8 (y3.toNat : Int), .int .u8 (y0.toNat : Int)]) rfl (by kernel_rfl) (by kernel_rfl) (by kernel_rfl) (fun _ _ _ h => h) (Or.inl ⟨by rfl, fun w' hw' => ?_⟩) hHeld ?_
                    · first | (go_simp; done) | (go_simp; rfl)
                    try simp only [Act.put, qT, q0, qS]
                    refine wpAnyH_ready (rs := [19]) (by kernel_rfl) (by simp) ?_
                    refine AllReadyH.cons (o := ⟨none, .store 125 (.tmp 10) (.tmp 62), 0, _, #[⟨18, .data⟩, ⟨0, .phase⟩, ⟨1, .phase⟩, ⟨2, .phase⟩, ⟨3, .phase⟩, ⟨4, .phase⟩, ⟨5, .phase⟩, ⟨6, .phase⟩, ⟨7, .phase⟩, ⟨8, .phase⟩, ⟨9, .phase⟩, ⟨10, .phase⟩, ⟨11, .phase⟩, ⟨12, .phase⟩, ⟨13, .phase⟩, ⟨14, .phase⟩, ⟨15, .phase⟩, ⟨16, .phase⟩, ⟨17, .phase⟩, ⟨18, .phase⟩], none⟩) rfl (fun K hK => ?_) AllReadyH.nil
                    rw [if_pos (by rfl)]
                    rw [← HMAe.out]
                    refine wp_store_row 125 _ _ rfl b MA rfl rfl 125 _ HROW.out HMAI.out (HP4.out.trans HMA4.out.symm) HMA1.out ?_
                    have hHeld2 := hHeld.below (below_setRow (Below.refl b V) (Nat.le_refl _) MA) hb
                    refine hK.out _ _ hHeld2 (fun _ => ?_)
                    clear hK K
                    try simp only [Act.put, qT, q0, qS]
                    refine wpAnyH_done (by kernel_rfl) ?_ _
                    exact ⟨rfl, rfl⟩
            case k =>
              have HXT : Hid (XT w KA TA ZA F b M (v * 4) (V.setRow b MA)) := ⟨HXP0.out.below (below_setRow (Below.refl b V) (Nat.le_refl _) MA) hb, by rw [← HMM.out]; exact setRow_heap _ _ _ _ _ _ HROW.out⟩
              clear c0' c1' c2' c3' HXP0 HROW HT0 HT1 HT2 HT3 hV
              generalize V.setRow b MA = W2 at *
              go_wp2_with fail
              refine (htm _).mono ?_
              rintro e wx ⟨rfl, rfl⟩
              clear htm
              go_wp2
              go_loopw [11] (fun i wr => ∃ k : Nat, k ≤ 4 ∧ i = .int .i64 k ∧ XT w KA TA ZA F b M (v * 4 + k) wr) (fun i _ => 4 - (intOf i).toNat)
              case atStart => exact ⟨0, by omega, rfl, HXT.out⟩
              case round =>
                clear HXT
                obtain ⟨k, hk, rfl, hX⟩ := hrel
                by_cases hlk : k < 4
                · have hkI : (k : Int) < 4 := by omega
                  have HS : Hid (XT w KA TA ZA F b M (v * 4 + k + 1) (wr.setCell ⟨w.heap.size + 1 + 1 + 1, v * 4 + k, none⟩ (.int .u8 ((F.getD ((v - 4) * 4 + k) 0 ^^^ M.getD k 0).toNat : Int)))) := hX.set HFL.out (by omega) hb _ (HFT.out k hlk)
                  have g1 := hX.1.cell HFL.out (by omega) ((v - 4) * 4 + k) (by omega)
                  have g2 := cell_of_row _ _ k _ _ _ hX.2
                  rw [row_get M 4 HML.out _ hlk] at g2
                  obtain ⟨u, hu⟩ := bpart_cell' 176 F (v * 4 + k) HFL.out (by omega)
                  have g4 := cell_of_row _ _ (v * 4 + k) _ _ _ hX.1.2.2.2.1
                  rw [hu] at g4
                  have g5 := frozen_of_row _ _ (v * 4 + k) _ _ hX.1.2.2.2.1
                  have q4 : IntKind.i64.wrap ((v : Int) - 4) = (v : Int) - 4 := wrap_i64_7 _ (by omega) (by omega)
                  have t4 : ((v : Int) - 4).toNat = v - 4 := by omega
                  have l4 : (0 : Int) ≤ (v : Int) - 4 ∧ (v : Int) - 4 < 44 := by omega
                  have m4 : (4 : Int) ≤ (v : Int) := by omega
                  generalize F.getD ((v - 4) * 4 + k) 0 = x at *
                  generalize M.getD k 0 = y at *
                  have hxy := xor_u8' x y
                  have HXY : Hid _ := hxy
                  clear hX hu
                  go_wp2
                  go_region
                  all_goals
                    go_wp2
                    go_roundw
                    case rel =>
                      refine ⟨k + 1, by omega, by go_num, ?_⟩
                      have := HS.out.drew
                      first
                        | exact this
                        | (rw [HXY.out]; exact this)
                        | (rw [UInt8.toNat_xor] at this; exact this)
                    case measure => simp [intOf]; omega
                · have hk4 : k = 4 := by omega
                  have hkI : ¬ (k : Int) < 4 := by omega
                  have HX1 : Hid (XP w KA TA ZA F ((v + 1) * 4) wr) := by
                    show XP _ _ _ _ _ _ _
                    rw [hk4] at hX
                    rw [show (v + 1) * 4 = v * 4 + 4 by omega]
                    exact hX.1
                  clear hX hk4
                  go_wp2
                  go_roundw
                  case rel => exact ⟨v + 1, by omega, by omega, by go_num, by rw [HPW.out], HX1.out⟩
                  case measure => simp [intOf]; omega
            --B--
          · have hvz : ((v : Int) % 4 == 0) = false := by simp; omega
            obtain ⟨M, hM⟩ : ∃ M, M = exT t F (v - 4) := ⟨_, rfl⟩
            have hMw : M = wdA F (v - 1) := by
              rw [hM]; unfold exT wdA
              rw [if_neg (by omega), show 4 * (v - 4 + 3) = (v - 1) * 4 by omega]
            rw [← hM] at HFT
            have HML : Hid (M.length = 4) := by show _ = _; rw [hMw]; rfl
            have HPW : Hid (pwA ((v + 1 - 1) / 4) = pwA ((v - 1) / 4)) := by show _ = _; rw [show (v + 1 - 1) / 4 = (v - 1) / 4 by omega]
            have HXT : Hid (XT w KA TA ZA F w2.heap.size M (v * 4) ((w2.alloc (.cells #[.int .u8 0, .int .u8 0, .int .u8 0, .int .u8 0] 125 (0, 0))).setRow w2.heap.size PL.toArray)) := ⟨HB1.out.1, by rw [hMw, ← HPL.out]; exact HB1.out.2⟩
            clear hM hMw
            go_wp2_with (first
              | (refine wpList_load_mid rfl 125 _ rfl (w.heap.size + 1 + 1 + 1) ((v - 1) * 4) rfl PL _ HW.out Tryz.underlying125 rfl HIP.out ?_)
              | (refine wpList_store_row rfl 125 _ _ rfl w2.heap.size PL.toArray rfl rfl 125 _ (heap_at _ _ _ rfl) HIQ.out (by rw [HP4.out]; rfl) HP1.out ?_))
            clear HB1 HW HXP HIP HIQ HP1 HP4
            generalize w2.heap.size = b at *
            go_loopw [11] (fun i wr => ∃ k : Nat, k ≤ 4 ∧ i = .int .i64 k ∧ XT w KA TA ZA F b M (v * 4 + k) wr) (fun i _ => 4 - (intOf i).toNat)
            case atStart => exact ⟨0, by omega, rfl, HXT.out⟩
            case round =>
              clear HXT
              obtain ⟨k, hk, rfl, hX⟩ := hrel
              by_cases hlk : k < 4
              · have hkI : (k : Int) < 4 := by omega
                have HS : Hid (XT w KA TA ZA F b M (v * 4 + k + 1) (wr.setCell ⟨w.heap.size + 1 + 1 + 1, v * 4 + k, none⟩ (.int .u8 ((F.getD ((v - 4) * 4 + k) 0 ^^^ M.getD k 0).toNat : Int)))) := hX.set HFL.out (by omega) hb _ (HFT.out k hlk)
                have g1 := hX.1.cell HFL.out (by omega) ((v - 4) * 4 + k) (by omega)
                have g2 := cell_of_row _ _ k _ _ _ hX.2
                rw [row_get M 4 HML.out _ hlk] at g2
                obtain ⟨u, hu⟩ := bpart_cell' 176 F (v * 4 + k) HFL.out (by omega)
                have g4 := cell_of_row _ _ (v * 4 + k) _ _ _ hX.1.2.2.2.1
                rw [hu] at g4
                have g5 := frozen_of_row _ _ (v * 4 + k) _ _ hX.1.2.2.2.1
                have q4 : IntKind.i64.wrap ((v : Int) - 4) = (v : Int) - 4 := wrap_i64_7 _ (by omega) (by omega)
                have t4 : ((v : Int) - 4).toNat = v - 4 := by omega
                have l4 : (0 : Int) ≤ (v : Int) - 4 ∧ (v : Int) - 4 < 44 := by omega
                have m4 : (4 : Int) ≤ (v : Int) := by omega
                generalize F.getD ((v - 4) * 4 + k) 0 = x at *
                generalize M.getD k 0 = y at *
                have hxy := xor_u8' x y
                have HXY : Hid _ := hxy
                clear hX hu
                go_wp2
                go_region
                all_goals
                  go_wp2
                  go_roundw
                  case rel =>
                    refine ⟨k + 1, by omega, by go_num, ?_⟩
                    have := HS.out.drew
                    first
                      | exact this
                      | (rw [HXY.out]; exact this)
                      | (rw [UInt8.toNat_xor] at this; exact this)
                  case measure => simp [intOf]; omega
              · have hk4 : k = 4 := by omega
                have hkI : ¬ (k : Int) < 4 := by omega
                have HX1 : Hid (XP w KA TA ZA F ((v + 1) * 4) wr) := by
                  show XP _ _ _ _ _ _ _
                  rw [hk4] at hX
                  rw [show (v + 1) * 4 = v * 4 + 4 by omega]
                  exact hX.1
                clear hX hk4
                go_wp2
                go_roundw
                case rel => exact ⟨v + 1, by omega, by omega, by go_num, by rw [HPW.out], HX1.out⟩
                case measure => simp [intOf]; omega
        · have hv4 : v = 44 := by omega
          have hvI : ¬ (v : Int) < 44 := by omega
          have HM1 : Hid (XP w KA TA ZA F 176 wr) := by
            show XP _ _ _ _ _ _ _
            rw [hv4] at hM
            exact hM
          have hsw : w.heap.size + 4 ≤ wr.heap.size := hM.2.2.2.2.2
          have HXO : Hid (XO w KA TA ZA F wr.heap.size 0 (wr.alloc (.cells ZA 111 (0, 0)))) := ⟨HM1.out.below ((Below.refl _ _).alloc (Nat.le_refl _) _) hsw, by rw [← HZA.out]; exact heap_at _ _ _ rfl⟩
          clear hM hv4 HM1
          go_wp2
          generalize wr.alloc (.cells ZA 111 (0, 0)) = W0 at *
          generalize wr.heap.size = g at *
          go_loopw [13] (fun i wr => ∃ c : Nat, c ≤ 44 ∧ i = .int .i64 c ∧ XO w KA TA ZA F g (c * 4) wr) (fun i _ => 44 - (intOf i).toNat)
          case atStart => exact ⟨0, by omega, rfl, HXO.out⟩
          case round =>
            clear HXO
            obtain ⟨c, hc, rfl, hM⟩ := hrel
            by_cases hlc : c < 44
            · have hcI : (c : Int) < 44 := by omega
              have HM0 : Hid (XO w KA TA ZA F g (c * 4) wr) := hM
              clear hM
              go_wp2
              go_loopw [14] (fun i wr => ∃ r : Nat, r ≤ 4 ∧ i = .int .i64 r ∧ XO w KA TA ZA F g (c * 4 + r) wr) (fun i _ => 4 - (intOf i).toNat)
              case atStart => exact ⟨0, by omega, rfl, HM0.out⟩
              case round =>
                clear HM0
                obtain ⟨r, hr, rfl, hM⟩ := hrel
                by_cases hlr : r < 4
                · have hrI : (r : Int) < 4 := by omega
                  have hS := hM.set HFL.out (show c * 4 + r < 176 by omega) hsw
                  obtain ⟨d, hd⟩ : ∃ d, d = c / 4 := ⟨_, rfl⟩
                  obtain ⟨e, he⟩ : ∃ e, e = c % 4 := ⟨_, rfl⟩
                  have hi : c * 4 + r = d * 16 + (4 * e + r) := by omega
                  have g1 := hM.1.cell HFL.out (by omega) (c * 4 + r) (by omega)
                  obtain ⟨u, hu⟩ := bpart_cell' 176 F (c * 4 + r) HFL.out (by omega)
                  have g4 := cell_of_row _ _ (c * 4 + r) _ _ _ hM.2
                  rw [hu, hi] at g4
                  have g5 := frozen_of_row _ _ (c * 4 + r) _ _ hM.2
                  rw [hi] at g5
                  have hS' : XO w KA TA ZA F g (c * 4 + (r + 1)) (wr.setCell ⟨g, d * 16 + (4 * e + r), none⟩ (.int .u8 ((F.getD (c * 4 + r) 0).toNat : Int))) := by
                    rw [← hi]; exact hS
                  have HS : Hid _ := hS'
                  have q1 : Int.tdiv (c : Int) 4 = (d : Int) := by rw [Int.tdiv_eq_ediv_of_nonneg (by omega)]; omega
                  have q2 : Int.tmod (c : Int) 4 = (e : Int) := by rw [Int.tmod_eq_emod_of_nonneg (by omega)]; omega
                  have q1' : (c : Int) / 4 = (d : Int) := by omega
                  have q2' : (c : Int) % 4 = (e : Int) := by omega
                  have q3 : IntKind.i64.wrap (4 * (e : Int)) = 4 * (e : Int) := wrap_i64_7 _ (by omega) (by omega)
                  have q4 : IntKind.i64.wrap (4 * (e : Int) + r) = 4 * (e : Int) + r := wrap_i64_7 _ (by omega) (by omega)
                  have t1 : (4 * (e : Int) + r).toNat = 4 * e + r := by omega
                  have l1 : (0 : Int) ≤ 4 * (e : Int) + r ∧ 4 * (e : Int) + r < 16 := by omega
                  have l2 : (d : Int) < 11 := by omega
                  generalize F.getD (c * 4 + r) 0 = x at *
                  clear hM hS hS' hu hd he hi
                  go_wp2
                  go_region
                  all_goals
                    go_wp2
                    go_roundw
                    case rel => exact ⟨r + 1, by omega, by go_num, XO.drew HS.out⟩
                    case measure => simp [intOf]; omega
                · have hr4 : r = 4 := by omega
                  have hrI : ¬ (r : Int) < 4 := by omega
                  have HM1 : Hid (XO w KA TA ZA F g ((c + 1) * 4) wr) := by
                    show XO _ _ _ _ _ _ _ _
                    rw [hr4] at hM
                    rw [show (c + 1) * 4 = c * 4 + 4 by omega]
                    exact hM
                  clear hM hr4
                  go_wp2
                  go_roundw
                  case rel => exact ⟨c + 1, by omega, by go_num, HM1.out⟩
                  case measure => simp [intOf]; omega
            · have hk' : c = 44 := by omega
              have hlt' : ¬ (c : Int) < 44 := by omega
              rw [hk'] at hM
              obtain ⟨⟨h1, h2, h3, h4, h5, h6⟩, h7⟩ := hM
              rw [show 44 * 4 = 176 from rfl, bpart_all 176 F HFL.out] at h7
              obtain ⟨RS, hRS⟩ : ∃ RS, RS = (F.map B8).toArray := ⟨_, rfl⟩
              have hr8 : RS.size = 176 := by rw [hRS]; simp [HFL.out]
              have HRI : Hid ((Tryz.prog.info? 111).map (·.size) = some RS.size) := by show _ = _; rw [hr8]; kernel_rfl
              have HR1 : Hid (RS.all (·.oneCell') = true) := by show _ = _; rw [hRS]; exact B8_onea _
              rw [← hRS] at h7
              have HT' : Hid _ := h7
              have HR : Hid _ := h3
              have HR8 : Hid (ZA.size = RS.size) := by show _ = _; rw [hr8, HZA.out]; simp [bpart_len 176 F 0 HFL.out (by omega)]
              have HRS : Hid _ := hRS
              clear h1 h2 h3 h4 h7 hr8 hRS hk'
              go_wp2_with (first
                | (refine wpList_load_row rfl 111 _ rfl g rfl 111 _ (0, 0) _ HT'.out Tryz.underlying111 rfl HRI.out ?_)
                | (refine wpList_store_row rfl 111 _ _ rfl (w.heap.size + 1 + 1) _ rfl rfl 111 _ HR.out HRI.out HR8.out HR1.out ?_))
              refine bodyPost_ret (v := .agg RS) ?_ rfl ⟨by rw [HRS.out], below_setRow h5 (by omega) _⟩
              exact results_cell_row Tryz.results60 _ _ (w.heap.size + 1 + 1) 111 _ (0, 0) _ rfl (setRow_heap _ _ _ _ _ _ HR.out) Tryz.underlying111 rfl HRI.out

end Go.Proofs.YtbmmibmfjhehhaaGreat.AE
