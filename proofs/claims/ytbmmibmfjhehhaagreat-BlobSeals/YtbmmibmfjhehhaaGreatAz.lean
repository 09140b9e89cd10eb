/- Several texts in one. -/
import Derived.Test.YtbmmibmfjhehhaaGreatAy
import Derived.Test.YtbmmibmfjhehhaaGreatWf
set_option linter.unusedVariables false
set_option linter.unusedSimpArgs false
/- Contract of aes's expand. -/
namespace Go.Proofs.YtbmmibmfjhehhaaGreat.AE
open Go.RowKit

theorem zero11 (w : World) : (zeroValue 111).run Tryz.prog w = .ok (.agg ((List.replicate 176 (0 : UInt8)).map B8).toArray) w := by kernel_rfl

theorem list16 (l : List UInt8) (h : l.length = 16) : ∃ a0 a1 a2 a3 a4 a5 a6 a7 a8 a9 a10 a11 a12 a13 a14 a15, l = [a0, a1, a2, a3, a4, a5, a6, a7, a8, a9, a10, a11, a12, a13, a14, a15] := by
  match l, h with
  | [a0, a1, a2, a3, a4, a5, a6, a7, a8, a9, a10, a11, a12, a13, a14, a15], _ => exact ⟨a0, a1, a2, a3, a4, a5, a6, a7, a8, a9, a10, a11, a12, a13, a14, a15, rfl⟩
theorem fold_key (key : List UInt8) (h : key.length = 16) : Array.foldl (fun (cs : Array Value) (x : Value × Nat) => cs.setIfInBounds x.snd x.fst) ((List.replicate 176 (0 : UInt8)).map B8).toArray (key.map B8).toArray.zipIdx 0 16 = ((key ++ List.replicate 160 0).map B8).toArray := by
  obtain ⟨a0, a1, a2, a3, a4, a5, a6, a7, a8, a9, a10, a11, a12, a13, a14, a15, rfl⟩ := list16 key h
  kernel_rfl
theorem bpart_key (key t : List UInt8) (h : key.length = 16) : bpart 176 (exA key t) 16 = key ++ List.replicate 160 0 := by
  have e : (exA key t).take 16 = key := by
    apply List.ext_getElem
    · simp [exA_len key t h, h]
    · intro n h1 h2
      have hn : n < 16 := by omega
      have := exA_key key t n h hn
      have hl : n < (exA key t).length := by rw [exA_len key t h]; omega
      simp only [List.getD, List.getElem?_eq_getElem hl, List.getElem?_eq_getElem h2, Option.getD_some] at this
      rw [List.getElem_take]; exact this
  unfold bpart
  rw [e]
def PX (w : World) (KA TA ZA : Array Value) (F : List UInt8) (k : Nat) (wr : World) : Prop :=
  wr.heap[w.heap.size]? = some (.cells KA 86 (0, 0)) ∧ wr.heap[w.heap.size + 1]? = some (.cells TA 109 (0, 0)) ∧ wr.heap[w.heap.size + 1 + 1]? = some (.cells ZA 111 (0, 0)) ∧ wr.heap[w.heap.size + 1 + 1 + 1]? = some (.cells ((bpart 176 F k).map B8).toArray 111 (0, 0)) ∧ Below w.heap.size w wr ∧ w.heap.size + 4 ≤ wr.heap.size
theorem PX.drew {w : World} {KA TA ZA : Array Value} {F : List UInt8} {k : Nat} {wr : World} (h : PX w KA TA ZA F k wr) : PX w KA TA ZA F k wr.drew := by
  unfold PX at *
  rw [heap_drew]
  exact ⟨h.1, h.2.1, h.2.2.1, h.2.2.2.1, h.2.2.2.2.1.drew, h.2.2.2.2.2⟩
theorem PX.below {w : World} {KA TA ZA : Array Value} {F : List UInt8} {k B : Nat} {a b : World} (h : PX w KA TA ZA F k a) (hb : Below B a b) (hB : w.heap.size + 4 ≤ B) : PX w KA TA ZA F k b := by
  obtain ⟨h1, h2, h3, h4, h5, h6⟩ := h
  exact ⟨(hb.block _ (by omega)).trans h1, (hb.block _ (by omega)).trans h2, (hb.block _ (by omega)).trans h3, (hb.block _ (by omega)).trans h4, h5.trans (hb.mono (by omega)), by have := hb.size; omega⟩
theorem PX.set {w : World} {KA TA ZA : Array Value} {F : List UInt8} {k : Nat} {wr : World} (h : PX w KA TA ZA F k wr) (hF : F.length = 176) (hk : k < 176) :
    PX w KA TA ZA F (k + 1) (wr.setCell ⟨w.heap.size + 1 + 1 + 1, k, none⟩ (B8 (F.getD k 0))) := by
  obtain ⟨h1, h2, h3, h4, h5, h6⟩ := h
  have hb := (Below.refl (w.heap.size + 1 + 1 + 1) wr).setCell (p := ⟨w.heap.size + 1 + 1 + 1, k, none⟩) (Nat.le_refl _) (B8 (F.getD k 0))
  refine ⟨(hb.block _ (by omega)).trans h1, (hb.block _ (by omega)).trans h2, (hb.block _ (by omega)).trans h3, ?_, h5.setCell (p := ⟨w.heap.size + 1 + 1 + 1, k, none⟩) (by show w.heap.size ≤ w.heap.size + 1 + 1 + 1; omega) _, by simpa using h6⟩
  rw [← bpart_set 176 F k hF hk]; exact heap_setCell_same _ (w.heap.size + 1 + 1 + 1) k _ 111 _ h4
theorem PX.cell {w : World} {KA TA ZA : Array Value} {F : List UInt8} {k : Nat} {wr : World} (h : PX w KA TA ZA F k wr) (hF : F.length = 176) (hk : k ≤ 176) (j : Nat) (hj : j < k) :
    wr.cell? ⟨w.heap.size + 1 + 1 + 1, j, none⟩ = some (.int .u8 ((F.getD j 0).toNat : Int)) := by
  rw [cell_of_row _ _ j _ _ _ h.2.2.2.1, row_get _ 176 (bpart_len 176 F k hF hk) _ (by omega), bpart_old 176 F k j hF hk hj]
theorem PX.tab {w : World} {KA ZA : Array Value} {F t : List UInt8} {k : Nat} {wr : World} (h : PX w KA (t.map B8).toArray ZA F k wr) (ht : t.length = 256) (x : UInt8) :
    wr.cell? ⟨w.heap.size + 1, x.toNat, none⟩ = some (.int .u8 ((t.getD x.toNat 0).toNat : Int)) := by
  rw [cell_of_row _ _ x.toNat _ _ _ h.2.1, row_get t 256 ht _ x.toNat_lt]
def wpart (G : Nat → UInt8) (i : Nat) : List UInt8 := (List.range 4).map fun p => G (i + (p + 4 - i % 4) % 4)
theorem wpart_len (G : Nat → UInt8) (i : Nat) : (wpart G i).length = 4 := by unfold wpart; simp
theorem wpart_get (G : Nat → UInt8) (i : Nat) : (wpart G i).getD (i % 4) 0 = G i := by
  unfold wpart
  rw [List.getD, List.getElem?_map, List.getElem?_range (by omega)]
  show G (i + (i % 4 + 4 - i % 4) % 4) = _
  rw [show i + (i % 4 + 4 - i % 4) % 4 = i by omega]
theorem wpart_set (G : Nat → UInt8) (i : Nat) : (wpart G i).set (i % 4) (G (i + 4)) = wpart G (i + 1) := by
  unfold wpart
  apply List.ext_getElem
  · simp
  · intro n h1 h2
    have hn : n < 4 := by simpa using h2
    simp only [List.getElem_set, List.getElem_map, List.getElem_range]
    by_cases h : i % 4 = n
    · rw [if_pos h]; congr 1; omega
    · rw [if_neg h]; congr 1; omega
theorem wpart_zero (G : Nat → UInt8) : wpart G 0 = [G 0, G 1, G 2, G 3] := rfl
def gxA (t F : List UInt8) (r i : Nat) : UInt8 := if i < 4 then (exT t F (4 * r)).getD i 0 else F.getD ((r + 1) * 16 + (i - 4)) 0
theorem gxA_step (key t : List UInt8) (r i : Nat) (hk : key.length = 16) (hr : r < 10) (hi : i < 16) : gxA t (exA key t) r i ^^^ (exA key t).getD (r * 16 + i) 0 = (exA key t).getD ((r + 1) * 16 + i) 0 := by
  have h := exA_step key t (4 * r + i / 4) (i % 4) hk (by omega) (by omega)
  rw [show 16 + 4 * (4 * r + i / 4) + i % 4 = (r + 1) * 16 + i by omega, show 4 * (4 * r + i / 4) + i % 4 = r * 16 + i by omega] at h
  revert h
  generalize exA key t = F
  intro h
  rw [h, x8_comm]
  congr 1
  clear h
  unfold gxA
  by_cases h4 : i < 4
  · rw [if_pos h4, show i / 4 = 0 by omega, show i % 4 = i by omega, Nat.add_zero]
  · rw [if_neg h4]
    unfold exT
    rw [if_neg (by omega)]
    have e : (r + 1) * 16 + (i - 4) = 4 * (4 * r + i / 4 + 3) + i % 4 := by omega
    rw [e]
    have hm : i % 4 < 4 := by omega
    generalize i % 4 = m at *
    obtain rfl | rfl | rfl | rfl : m = 0 ∨ m = 1 ∨ m = 2 ∨ m = 3 := by omega
    all_goals rfl
theorem gxA_next (t F : List UInt8) (r i : Nat) : gxA t F r (i + 4) = F.getD ((r + 1) * 16 + i) 0 := by
  unfold gxA
  rw [if_neg (by omega), show i + 4 - 4 = i by omega]
def PT (w : World) (KA TA ZA : Array Value) (F : List UInt8) (g : Nat) (m : List UInt8) (k : Nat) (wr : World) : Prop :=
  PX w KA TA ZA F k wr ∧ wr.heap[g]? = some (.cells (m.map B8).toArray 125 (0, 0))
theorem PT.drew {w : World} {KA TA ZA : Array Value} {F : List UInt8} {b : Nat} {m : List UInt8} {k : Nat} {wr : World} (h : PT w KA TA ZA F b m k wr) : PT w KA TA ZA F b m k wr.drew := ⟨h.1.drew, by rw [heap_drew]; exact h.2⟩
theorem PT.set {w : World} {KA TA ZA : Array Value} {F : List UInt8} {b : Nat} {m : List UInt8} {k : Nat} {wr : World} (h : PT w KA TA ZA F b m k wr) (hF : F.length = 176) (hk : k < 176) (hb : w.heap.size + 4 ≤ b) :
    PT w KA TA ZA F b m (k + 1) (wr.setCell ⟨w.heap.size + 1 + 1 + 1, k, none⟩ (B8 (F.getD k 0))) := by
  refine ⟨h.1.set hF hk, ?_⟩
  rw [heap_setCell_other _ _ _ _ (by show b ≠ w.heap.size + 1 + 1 + 1; omega)]; exact h.2
theorem PT.word {w : World} {KA TA ZA : Array Value} {F : List UInt8} {b : Nat} {m : List UInt8} {k : Nat} {wr : World} (h : PT w KA TA ZA F b m k wr) (hb : w.heap.size + 4 ≤ b) (i : Nat) (x : UInt8) :
    PT w KA TA ZA F b (m.set i x) k (wr.setCell ⟨b, i, none⟩ (B8 x)) := by
  refine ⟨h.1.below ((Below.refl b wr).setCell (p := ⟨b, i, none⟩) (Nat.le_refl _) _) hb, ?_⟩
  rw [← row_set]; exact heap_setCell_same _ b i _ 125 _ h.2
theorem sliceKey (w : World) (b o : Nat) : (Instr.sliceAt 86 (.pointer (some ⟨b, o, none⟩)) (some (.int .i64 12)) none none).run Tryz.prog w = .ok (.slice (some ⟨b, o + 12, none⟩) 4 4) w := by
  have ha : Tryz.prog.arrayLen 86 = 16 := by kernel_rfl
  have hu : Tryz.prog.underlying 86 = some (.array (Tryz.prog.arrayLen 86) (Tryz.prog.elem 86)) := by kernel_rfl
  have he : Tryz.prog.elem 86 = 5 := by kernel_rfl
  rw [run_sliceAt_array_l w 86 _ hu .i64 _ (by omega) (by rw [ha]; omega), he, size_u8, ha]
  have hadd : (⟨b, o, none⟩ : Addr).add 12 = ⟨b, o + 12, none⟩ := by unfold Addr.add; split <;> simp_all
  simp [Result.andThen, slicedAt, hadd]

set_option maxHeartbeats 8000000 in
set_option maxRecDepth 100000 in
theorem pexpand_any (key t : List UInt8) (w : World) (hk : key.length = 16) (ht : t.length = 256) :
    Calls Tryz.prog 87 #[.agg (key.map B8).toArray, .agg (t.map B8).toArray] w fun e w' => e = .returned (.agg ((exA key t).map B8).toArray) ∧ Below w.heap.size w w' := by
  have hyv := fun W => zero11 W
  have hfold := fold_key key hk
  have hbk := bpart_key key t hk
  rw [← hbk] at hfold
  have HGS : Hid (∀ r i, r < 10 → i < 16 → _) := fun r i hr hi => gxA_step key t r i hk hr hi
  have HFL : Hid _ := exA_len key t hk
  generalize exA key t = F at *
  obtain ⟨ZA, hZA⟩ : ∃ ZA, ZA = ((List.replicate 176 (0 : UInt8)).map B8).toArray := ⟨_, rfl⟩
  have hZS : ZA.size = 176 := by rw [hZA]; simp
  rw [← hZA] at hyv hfold
  obtain ⟨KA, hKA⟩ : ∃ KA, KA = (key.map B8).toArray := ⟨_, rfl⟩
  obtain ⟨TA, hTA⟩ : ∃ TA, TA = (t.map B8).toArray := ⟨_, rfl⟩
  have hKS : KA.size = 16 := by rw [hKA]; simp [hk]
  have HKI : Hid _ := info16 KA hKS
  rw [← hKA] at hfold
  rw [← hKA, ← hTA]
  obtain ⟨XA, hXA⟩ : ∃ XA, XA = ((bpart 176 F 16).map B8).toArray := ⟨_, rfl⟩
  rw [← hXA] at hfold
  have hXS : XA.size = 176 := by rw [hXA]; simp [bpart_len 176 F 16 HFL.out (by omega)]
  have HXI : Hid ((Tryz.prog.info? 111).map (·.size) = some XA.size) := by show _ = _; rw [hXS]; kernel_rfl
  have HX1 : Hid (XA.all (·.oneCell') = true) := by show _ = _; rw [hXA]; exact B8_onea _
  have HZX : Hid (ZA.size = XA.size) := hZS.trans hXS.symm
  have HH : Hid ((((w.alloc (.cells KA 86 (0, 0))).alloc (.cells TA 109 (0, 0))).alloc (.cells ZA 111 (0, 0))).heap[w.heap.size]? = some (.cells KA 86 (0, 0))) := by
    show _ = _
    repeat (first | exact heap_at _ _ _ (by simp) | rw [Below.heap_alloc _ _ _ (by first | (simp; done) | (simp; omega))])
  have HQ : Hid ((((((w.alloc (.cells KA 86 (0, 0))).alloc (.cells TA 109 (0, 0))).alloc (.cells ZA 111 (0, 0))).alloc (.cells ZA 111 (0, 0)))).heap[w.heap.size + 1 + 1 + 1]? = some (.cells ZA 111 (0, 0))) := heap_at _ _ _ (by simp)
  have HPX : Hid (PX w KA TA ZA F 16 (((((w.alloc (.cells KA 86 (0, 0))).alloc (.cells TA 109 (0, 0))).alloc (.cells ZA 111 (0, 0))).alloc (.cells ZA 111 (0, 0))).setRow (w.heap.size + 1 + 1 + 1) XA)) := by
    refine ⟨?_, ?_, ?_, ?_, ?_, by simp⟩
    · rw [setRow_other _ _ _ _ (by omega)]
      show _ = _
      repeat (first | exact heap_at _ _ _ (by simp) | rw [Below.heap_alloc _ _ _ (by first | (simp; done) | (simp; omega))])
    · rw [setRow_other _ _ _ _ (by omega)]
      show _ = _
      repeat (first | exact heap_at _ _ _ (by simp) | rw [Below.heap_alloc _ _ _ (by first | (simp; done) | (simp; omega))])
    · rw [setRow_other _ _ _ _ (by omega), Below.heap_alloc _ _ _ (by simp)]
      exact heap_at _ _ _ (by simp)
    · rw [← hXA]; exact setRow_heap _ _ _ _ _ _ HQ.out
    · exact below_setRow (((((Below.refl _ _).alloc (Nat.le_refl _) _).alloc (by simp) _).alloc (by simp; omega) _).alloc (by simp; omega) _) (by omega) _
  have HTA : Hid _ := hTA
  have HZS : Hid _ := hZS
  have HTL : Hid _ := ht
  clear hKA hTA hZA hbk hXA hk ht
  go_enter Tryz.func87, Tryz.ntmps87
  go_wp2_with (first
    | (refine wpList_load_row rfl 86 _ rfl w.heap.size rfl 86 KA (0, 0) _ HH.out Tryz.underlying86 rfl HKI.out ?_)
    | (refine wpList_store_row rfl 111 _ _ rfl (w.heap.size + 1 + 1 + 1) XA rfl rfl 111 _ HQ.out HXI.out HZX.out HX1.out ?_))
  go_loopw [6, 13] (fun p i wr => ∃ r : Nat, r ≤ 10 ∧ i = .int .i64 r ∧ p = .int .u8 (((pwA r).toNat : Nat) : Int) ∧ PX w KA TA ZA F ((r + 1) * 16) wr) (fun _ i _ => 10 - (intOf i).toNat)
  case atStart => exact ⟨0, by omega, rfl, rfl, HPX.out⟩
  case round =>
    clear HPX HQ HH HZX HX1 HXI hfold hXS hyv
    obtain ⟨r, hr, rfl, rfl, hM⟩ := hrel
    by_cases hlt : r < 10
    · have hrI : (r : Int) < 10 := by omega
      have hrJ : (r : Int) < 11 := by omega
      have hsk := fun W => sliceKey W (w.heap.size + 1 + 1 + 1) (r * 16)
      have HM0 : Hid (PX w KA TA ZA F ((r + 1) * 16) wr) := hM
      have hswr : w.heap.size + 4 ≤ wr.heap.size := hM.2.2.2.2.2
      have HK : Hid (∀ j, j < 4 → ∀ w', PX w KA TA ZA F ((r + 1) * 16) w' → w'.cell? ⟨w.heap.size + 1 + 1 + 1, r * 16 + 12 + j, none⟩ = some (.int .u8 ((F.getD (r * 16 + 12 + j) 0).toNat : Int))) := fun j hj w' h => h.cell HFL.out (by omega) _ (by omega)
      have HT : Hid (∀ x : UInt8, ∀ w', PX w KA TA ZA F ((r + 1) * 16) w' → w'.cell? ⟨w.heap.size + 1, x.toNat, none⟩ = some (.int .u8 ((t.getD x.toNat 0).toNat : Int))) := fun x w' h => by
        rw [HTA.out] at h; exact h.tab HTL.out x
      have hG0 : gxA t F r 0 = t.getD (F.getD (r * 16 + 12 + 1) 0).toNat 0 ^^^ pwA r := by
        unfold gxA exT
        rw [if_pos (by omega), if_pos (by omega), show 4 * (4 * r + 3) = r * 16 + 12 by omega, show 4 * r / 4 = r by omega]
        rfl
      have hG1 : gxA t F r 1 = t.getD (F.getD (r * 16 + 12 + 2) 0).toNat 0 := by
        unfold gxA exT
        rw [if_pos (by omega), if_pos (by omega), show 4 * (4 * r + 3) = r * 16 + 12 by omega]
        rfl
      have hG2 : gxA t F r 2 = t.getD (F.getD (r * 16 + 12 + 3) 0).toNat 0 := by
        unfold gxA exT
        rw [if_pos (by omega), if_pos (by omega), show 4 * (4 * r + 3) = r * 16 + 12 by omega]
        rfl
      have hG3 : gxA t F r 3 = t.getD (F.getD (r * 16 + 12 + 0) 0).toNat 0 := by
        unfold gxA exT
        rw [if_pos (by omega), if_pos (by omega), show 4 * (4 * r + 3) = r * 16 + 12 by omega]
        rfl
      have HK0 : Hid _ := HK.out 0 (by omega)
      have HK1 : Hid _ := HK.out 1 (by omega)
      have HK2 : Hid _ := HK.out 2 (by omega)
      have HK3 : Hid _ := HK.out 3 (by omega)
      have HT0 : Hid _ := HT.out (F.getD (r * 16 + 12 + 0) 0)
      have HT1 : Hid _ := HT.out (F.getD (r * 16 + 12 + 1) 0)
      have HT2 : Hid _ := HT.out (F.getD (r * 16 + 12 + 2) 0)
      have HT3 : Hid _ := HT.out (F.getD (r * 16 + 12 + 3) 0)
      have HGW : Hid (wpart (gxA t F r) 0 = [gxA t F r 0, gxA t F r 1, gxA t F r 2, gxA t F r 3]) := wpart_zero _
      rw [hG0, hG1, hG2, hG3] at HGW
      have HGG : Hid (∀ i, wpart (gxA t F r) i = wpart (gxA t F r) i) := fun _ => rfl
      have HGN : Hid _ := fun i => gxA_next t F r i
      have HGR : Hid _ := fun i (hi : i < 16) => HGS.out r i hlt hi
      have hpw := fun W => ptimes_any (pwA r) 2 W
      rw [← tmA_tmP, show (((2 : UInt8).toNat : Nat) : Int) = 2 from rfl, show tmA (pwA r) 2 = pwA (r + 1) from rfl] at hpw
      generalize gxA t F r = G at *
      obtain ⟨p1, hp1⟩ : ∃ p1, p1 = pwA (r + 1) := ⟨_, rfl⟩
      rw [← hp1] at hpw
      have HP1 : Hid (Value.int .u8 ((p1.toNat : Nat) : Int) = .int .u8 (((pwA (r + 1)).toNat : Nat) : Int)) := by show _ = _; rw [hp1]
      clear hp1
      generalize pwA r = p0 at *
      generalize F.getD (r * 16 + 12 + 0) 0 = x0 at *
      generalize F.getD (r * 16 + 12 + 1) 0 = x1 at *
      generalize F.getD (r * 16 + 12 + 2) 0 = x2 at *
      generalize F.getD (r * 16 + 12 + 3) 0 = x3 at *
      have k0 : (x0.toNat : Int) < 256 := by have := x0.toNat_lt; omega
      have k1 : (x1.toNat : Int) < 256 := by have := x1.toNat_lt; omega
      have k2 : (x2.toNat : Int) < 256 := by have := x2.toNat_lt; omega
      have k3 : (x3.toNat : Int) < 256 := by have := x3.toNat_lt; omega
      generalize t.getD x0.toNat 0 = y0 at *
      generalize t.getD x1.toNat 0 = y1 at *
      generalize t.getD x2.toNat 0 = y2 at *
      generalize t.getD x3.toNat 0 = y3 at *
      have hxp := xor_u8' y1 p0
      generalize y1 ^^^ p0 = z1 at *
      clear hM hG0 hG1 hG2 hG3 HK HT
      go_wp2
      refine wp_region_held_drew (S := PX w KA TA ZA F ((r + 1) * 16)) (by kernel_rfl) HM0.out.drew (fun hHeld => ?_)
      refine wpAnyH_take (i := 0) (oi := ⟨some 19, .move (.tmp 8), 64, _, #[], none⟩) (v := .slice (some ⟨w.heap.size + 1 + 1 + 1, r * 16 + 12, none⟩) 4 4) rfl (by kernel_rfl) (by kernel_rfl) (by kernel_rfl) (fun _ _ _ h => h) (Or.inl ⟨by rfl, fun w' hw' => ?_⟩) hHeld ?_
      · first | (go_simp; done) | (go_simp; rfl)
      try simp only [Act.put, qT, q0, qS]
      refine wpAnyH_take (i := 1) (oi := ⟨some 20, .indexAddr 64 (.tmp 19) (.const (Go.Value.int Go.IntKind.i64 1)), 0, _, #[⟨0, .data⟩], none⟩) (v := .pointer (some ⟨w.heap.size + 1 + 1 + 1, r * 16 + 12 + 1, none⟩)) rfl (by kernel_rfl) (by kernel_rfl) (by kernel_rfl) (fun _ _ _ h => h) (Or.inl ⟨by rfl, fun w' hw' => ?_⟩) hHeld ?_
      · first | (go_simp; done) | (go_simp; rfl)
      try simp only [Act.put, qT, q0, qS]
      refine wpAnyH_take (i := 2) (oi := ⟨some 21, .load 5 (.tmp 20), 5, _, #[⟨1, .data⟩], none⟩) (v := .int .u8 (x1.toNat : Int)) rfl (by kernel_rfl) (by kernel_rfl) (by kernel_rfl) (fun _ _ _ h => h) (Or.inl ⟨by rfl, fun w' hw' => ?_⟩) hHeld ?_
      · have hcc := HK1.out w' hw'; first | (go_simp; done) | (go_simp; rfl)
      try simp only [Act.put, qT, q0, qS]
      refine wpAnyH_take (i := 3) (oi := ⟨some 22, .indexAddr 109 (.tmp 3) (.tmp 21), 0, _, #[⟨2, .data⟩], none⟩) (v := .pointer (some ⟨w.heap.size + 1, x1.toNat, none⟩)) rfl (by kernel_rfl) (by kernel_rfl) (by kernel_rfl) (fun _ _ _ h => h) (Or.inl ⟨by rfl, fun w' hw' => ?_⟩) hHeld ?_
      · first | (go_simp; done) | (go_simp; rfl)
      try simp only [Act.put, qT, q0, qS]
      refine wpAnyH_take (i := 4) (oi := ⟨some 23, .load 5 (.tmp 22), 5, _, #[⟨3, .data⟩], none⟩) (v := .int .u8 (y1.toNat : Int)) rfl (by kernel_rfl) (by kernel_rfl) (by kernel_rfl) (fun _ _ _ h => h) (Or.inl ⟨by rfl, fun w' hw' => ?_⟩) hHeld ?_
      · have hcc := HT1.out w' hw'; first | (go_simp; done) | (go_simp; rfl)
      try simp only [Act.put, qT, q0, qS]
      refine wpAnyH_take (i := 5) (oi := ⟨some 24, .move (.tmp 6), 5, _, #[], none⟩) (v := .int .u8 (p0.toNat : Int)) rfl (by kernel_rfl) (by kernel_rfl) (by kernel_rfl) (fun _ _ _ h => h) (Or.inl ⟨by rfl, fun w' hw' => ?_⟩) hHeld ?_
      · first | (go_simp; done) | (go_simp; rfl)
      try simp only [Act.put, qT, q0, qS]
      refine wpAnyH_take (i := 6) (oi := ⟨some 25, .binOp .xor 5 (.tmp 23) (.tmp 24) 5, 5, _, #[⟨4, .data⟩, ⟨5, .data⟩], none⟩) (v := .int .u8 (z1.toNat : Int)) rfl (by kernel_rfl) (by kernel_rfl) (by kernel_rfl) (fun _ _ _ h => h) (Or.inl ⟨by rfl, fun w' hw' => ?_⟩) hHeld ?_
      · first | (go_simp; done) | (go_simp; rfl)
      try simp only [Act.put, qT, q0, qS]
      refine wpAnyH_take (i := 7) (oi := ⟨some 26, .move (.tmp 8), 64, _, #[], none⟩) (v := .slice (some ⟨w.heap.size + 1 + 1 + 1, r * 16 + 12, none⟩) 4 4) rfl (by kernel_rfl) (by kernel_rfl) (by kernel_rfl) (fun _ _ _ h => h) (Or.inl ⟨by rfl, fun w' hw' => ?_⟩) hHeld ?_
      · first | (go_simp; done) | (go_simp; rfl)
      try simp only [Act.put, qT, q0, qS]
      refine wpAnyH_take (i := 8) (oi := ⟨some 27, .indexAddr 64 (.tmp 26) (.const (Go.Value.int Go.IntKind.i64 2)), 0, _, #[⟨7, .data⟩], none⟩) (v := .pointer (some ⟨w.heap.size + 1 + 1 + 1, r * 16 + 12 + 2, none⟩)) rfl (by kernel_rfl) (by kernel_rfl) (by kernel_rfl) (fun _ _ _ h => h) (Or.inl ⟨by rfl, fun w' hw' => ?_⟩) hHeld ?_
      · first | (go_simp; done) | (go_simp; rfl)
      try simp only [Act.put, qT, q0, qS]
      refine wpAnyH_take (i := 9) (oi := ⟨some 28, .load 5 (.tmp 27), 5, _, #[⟨8, .data⟩], none⟩) (v := .int .u8 (x2.toNat : Int)) rfl (by kernel_rfl) (by kernel_rfl) (by kernel_rfl) (fun _ _ _ h => h) (Or.inl ⟨by rfl, fun w' hw' => ?_⟩) hHeld ?_
      · have hcc := HK2.out w' hw'; first | (go_simp; done) | (go_simp; rfl)
      try simp only [Act.put, qT, q0, qS]
      refine wpAnyH_take (i := 10) (oi := ⟨some 29, .indexAddr 109 (.tmp 3) (.tmp 28), 0, _, #[⟨9, .data⟩], none⟩) (v := .pointer (some ⟨w.heap.size + 1, x2.toNat, none⟩)) rfl (by kernel_rfl) (by kernel_rfl) (by kernel_rfl) (fun _ _ _ h => h) (Or.inl ⟨by rfl, fun w' hw' => ?_⟩) hHeld ?_
      · first | (go_simp; done) | (go_simp; rfl)
      try simp only [Act.put, qT, q0, qS]
      refine wpAnyH_take (i := 11) (oi := ⟨some 30, .load 5 (.tmp 29), 5, _, #[⟨10, .data⟩], none⟩) (v := .int .u8 (y2.toNat : Int)) rfl (by kernel_rfl) (by kernel_rfl) (by kernel_rfl) (fun _ _ _ h => h) (Or.inl ⟨by rfl, fun w' hw' => ?_⟩) hHeld ?_
      · have hcc := HT2.out w' hw'; first | (go_simp; done) | (go_simp; rfl)
      try simp only [Act.put, qT, q0, qS]
      refine wpAnyH_take (i := 12) (oi := ⟨some 31, .move (.tmp 8), 64, _, #[], none⟩) (v := .slice (some ⟨w.heap.size + 1 + 1 + 1, r * 16 + 12, none⟩) 4 4) rfl (by kernel_rfl) (by kernel_rfl) (by kernel_rfl) (fun _ _ _ h => h) (Or.inl ⟨by rfl, fun w' hw' => ?_⟩) hHeld ?_
      · first | (go_simp; done) | (go_simp; rfl)
      try simp only [Act.put, qT, q0, qS]
      refine wpAnyH_take (i := 13) (oi := ⟨some 32, .indexAddr 64 (.tmp 31) (.const (Go.Value.int Go.IntKind.i64 3)), 0, _, #[⟨12, .data⟩], none⟩) (v := .pointer (some ⟨w.heap.size + 1 + 1 + 1, r * 16 + 12 + 3, none⟩)) rfl (by kernel_rfl) (by kernel_rfl) (by kernel_rfl) (fun _ _ _ h => h) (Or.inl ⟨by rfl, fun w' hw' => ?_⟩) hHeld ?_
      · first | (go_simp; done) | (go_simp; rfl)
      try simp only [Act.put, qT, q0, qS]
      refine wpAnyH_take (i := 14) (oi := ⟨some 33, .load 5 (.tmp 32), 5, _, #[⟨13, .data⟩], none⟩) (v := .int .u8 (x3.toNat : Int)) rfl (by kernel_rfl) (by kernel_rfl) (by kernel_rfl) (fun _ _ _ h => h) (Or.inl ⟨by rfl, fun w' hw' => ?_⟩) hHeld ?_
      · have hcc := HK3.out w' hw'; first | (go_simp; done) | (go_simp; rfl)
      try simp only [Act.put, qT, q0, qS]
      refine wpAnyH_take (i := 15) (oi := ⟨some 34, .indexAddr 109 (.tmp 3) (.tmp 33), 0, _, #[⟨14, .data⟩], none⟩) (v := .pointer (some ⟨w.heap.size + 1, x3.toNat, none⟩)) rfl (by kernel_rfl) (by kernel_rfl) (by kernel_rfl) (fun _ _ _ h => h) (Or.inl ⟨by rfl, fun w' hw' => ?_⟩) hHeld ?_
      · first | (go_simp; done) | (go_simp; rfl)
      try simp only [Act.put, qT, q0, qS]
      refine wpAnyH_take (i := 16) (oi := ⟨some 35, .load 5 (.tmp 34), 5, _, #[⟨15, .data⟩], none⟩) (v := .int .u8 (y3.toNat : Int)) rfl (by kernel_rfl) (by kernel_rfl) (by kernel_rfl) (fun _ _ _ h => h) (Or.inl ⟨by rfl, fun w' hw' => ?_⟩) hHeld ?_
      · have hcc := HT3.out w' hw'; first | (go_simp; done) | (go_simp; rfl)
      try simp only [Act.put, qT, q0, qS]
      refine wpAnyH_take (i := 17) (oi := ⟨some 36, .move (.tmp 8), 64, _, #[], none⟩) (v := .slice (some ⟨w.heap.size + 1 + 1 + 1, r * 16 + 12, none⟩) 4 4) rfl (by kernel_rfl) (by kernel_rfl) (by kernel_rfl) (fun _ _ _ h => h) (Or.inl ⟨by rfl, fun w' hw' => ?_⟩) hHeld ?_
      · first | (go_simp; done) | (go_simp; rfl)
      try simp only [Act.put, qT, q0, qS]
      refine wpAnyH_take (i := 18) (oi := ⟨some 37, .indexAddr 64 (.tmp 36) (.const (Go.Value.int Go.IntKind.i64 0)), 0, _, #[⟨17, .data⟩], none⟩) (v := .pointer (some ⟨w.heap.size + 1 + 1 + 1, r * 16 + 12 + 0, none⟩)) rfl (by kernel_rfl) (by kernel_rfl) (by kernel_rfl) (fun _ _ _ h => h) (Or.inl ⟨by rfl, fun w' hw' => ?_⟩) hHeld ?_
      · first | (go_simp; done) | (go_simp; rfl)
      try simp only [Act.put, qT, q0, qS]
      refine wpAnyH_take (i := 19) (oi := ⟨some 38, .load 5 (.tmp 37), 5, _, #[⟨18, .data⟩], none⟩) (v := .int .u8 (x0.toNat : Int)) rfl (by kernel_rfl) (by kernel_rfl) (by kernel_rfl) (fun _ _ _ h => h) (Or.inl ⟨by rfl, fun w' hw' => ?_⟩) hHeld ?_
      · have hcc := HK0.out w' hw'; first | (go_simp; done) | (go_simp; rfl)
      try simp only [Act.put, qT, q0, qS]
      refine wpAnyH_take (i := 20) (oi := ⟨some 39, .indexAddr 109 (.tmp 3) (.tmp 38), 0, _, #[⟨19, .data⟩], none⟩) (v := .pointer (some ⟨w.heap.size + 1, x0.toNat, none⟩)) rfl (by kernel_rfl) (by kernel_rfl) (by kernel_rfl) (fun _ _ _ h => h) (Or.inl ⟨by rfl, fun w' hw' => ?_⟩) hHeld ?_
      · first | (go_simp; done) | (go_simp; rfl)
      try simp only [Act.put, qT, q0, qS]
      refine wpAnyH_take (i := 21) (oi := ⟨some 40, .load 5 (.tmp 39), 5, _, #[⟨20, .data⟩], none⟩) (v := .int .u8 (y0.toNat : Int)) rfl (by kernel_rfl) (by kernel_rfl) (by kernel_rfl) (fun _ _ _ h => h) (Or.inl ⟨by rfl, fun w' hw' => ?_⟩) hHeld ?_
      · have hcc := HT0.out w' hw'; first | (go_simp; done) | (go_simp; rfl)
      try simp only [Act.put, qT, q0, qS]
      refine wpAnyH_take (i := 22) (oi := ⟨some 41, .build 125 #[(0, .tmp 25), (1, .tmp 30), (2, .tmp 35), (3, .tmp 40)], 125, _, #[⟨6, .data⟩, ⟨11, .data⟩, ⟨16, .data⟩, ⟨21, .data⟩], none⟩) (v := .agg #[.int .u8 (z1.toNat : Int), .int .u8 (y2.toNat : Int), .int .u8 (y3.toNat : Int), .int .u8 (y0.toNat : Int)]) rfl (by kernel_rfl) (by kernel_rfl) (by kernel_rfl) (fun _ _ _ h => h) (Or.inl ⟨by rfl, fun w' hw' => ?_⟩) hHeld ?_
      · first | (go_simp; done) | (go_simp; rfl)
      try simp only [Act.put, qT, q0, qS]
      refine wpAnyH_ready (rs := [23]) (by kernel_rfl) (by simp) ?_
      refine AllReadyH.cons (o := ⟨some 9, .alloc 125, 0, _, #[], none⟩) rfl (fun K hK => ?_) AllReadyH.nil
      rw [if_pos (by rfl)]
      go_wp2_with fail
      have hHeld2 := (HM0.out.below ((Below.refl wr.heap.size wr).alloc (Nat.le_refl _) (.cells #[.int .u8 0, .int .u8 0, .int .u8 0, .int .u8 0] 125 (0, 0))) hswr).drew
      refine hK.out _ _ hHeld2 (fun _ => ?_)
      clear hK K
      try simp only [Act.put, qT, q0, qS]
      refine wpAnyH_ready (rs := [24]) (by kernel_rfl) (by simp) ?_
      refine AllReadyH.cons (o := ⟨none, .store 125 (.tmp 9) (.tmp 41), 0, _, #[⟨23, .data⟩, ⟨22, .data⟩, ⟨0, .phase⟩, ⟨1, .phase⟩, ⟨2, .phase⟩, ⟨3, .phase⟩, ⟨4, .phase⟩, ⟨5, .phase⟩, ⟨6, .phase⟩, ⟨7, .phase⟩, ⟨8, .phase⟩, ⟨9, .phase⟩, ⟨10, .phase⟩, ⟨11, .phase⟩, ⟨12, .phase⟩, ⟨13, .phase⟩, ⟨14, .phase⟩, ⟨15, .phase⟩, ⟨16, .phase⟩, ⟨17, .phase⟩, ⟨18, .phase⟩, ⟨19, .phase⟩, ⟨20, .phase⟩, ⟨21, .phase⟩, ⟨22, .phase⟩, ⟨23, .phase⟩], none⟩) rfl (fun K hK => ?_) AllReadyH.nil
      rw [if_pos (by rfl)]
      obtain ⟨MA, hMA⟩ : ∃ MA : Array Value, MA = #[.int .u8 (z1.toNat : Int), .int .u8 (y2.toNat : Int), .int .u8 (y3.toNat : Int), .int .u8 (y0.toNat : Int)] := ⟨_, rfl⟩
      have hMW : MA = ((wpart G 0).map B8).toArray := by rw [HGW.out, hMA]; rfl
      rw [← hMA]
      have hQ : (wr.alloc (.cells #[.int .u8 0, .int .u8 0, .int .u8 0, .int .u8 0] 125 (0, 0))).drew.heap[wr.heap.size]? = some (.cells #[.int .u8 0, .int .u8 0, .int .u8 0, .int .u8 0] 125 (0, 0)) := by rw [heap_drew]; exact heap_at _ _ _ rfl
      refine wp_store_row 125 _ _ rfl wr.heap.size MA rfl rfl 125 _ hQ (by rw [hMA]; kernel_rfl) (by rw [hMA]; rfl) (by rw [hMW]; exact B8_onea _) ?_
      have hHeld3 := hHeld2.below (below_setRow (Below.refl wr.heap.size _) (Nat.le_refl _) MA) hswr
      refine hK.out _ _ hHeld3 (fun _ => ?_)
      clear hK K
      try simp only [Act.put, qT, q0, qS]
      refine wpAnyH_done (by kernel_rfl) ?_ _
      have HPT : Hid (PT w KA TA ZA F wr.heap.size (wpart G 0) ((r + 1) * 16 + 0) ((wr.alloc (.cells #[.int .u8 0, .int .u8 0, .int .u8 0, .int .u8 0] 125 (0, 0))).drew.setRow wr.heap.size MA)) := ⟨hHeld3, by rw [← hMW]; exact setRow_heap _ _ _ _ _ _ hQ⟩
      clear hHeld hHeld2 hHeld3 hQ hMW hMA HM0 HK0 HK1 HK2 HK3 HT0 HT1 HT2 HT3 HGG hsk k0 k1 k2 k3
      generalize (wr.alloc (.cells #[.int .u8 0, .int .u8 0, .int .u8 0, .int .u8 0] 125 (0, 0))).drew.setRow wr.heap.size MA = W at *
      generalize wr.heap.size = g at *
      go_wp2
      go_loopw [42] (fun i wr => ∃ k : Nat, k ≤ 16 ∧ i = .int .i64 k ∧ PT w KA TA ZA F g (wpart G k) ((r + 1) * 16 + k) wr) (fun i _ => 16 - (intOf i).toNat)
      case atStart => exact ⟨0, by omega, rfl, HPT.out⟩
      case round =>
        clear HPT
        obtain ⟨k, hk, rfl, hM⟩ := hrel
        by_cases hlk : k < 16
        · have hkI : (k : Int) < 16 := by omega
          have hkr := HGR.out k hlk
          have h1 := (hM.word hswr (k % 4) (F.getD ((r + 1) * 16 + k) 0)).drew
          rw [← HGN.out k, wpart_set, HGN.out k] at h1
          have H1 : Hid (PT w KA TA ZA F g (wpart G (k + 1)) ((r + 1) * 16 + k) (wr.setCell ⟨g, k % 4, none⟩ (.int .u8 ((F.getD ((r + 1) * 16 + k) 0).toNat : Int))).drew) := h1
          have g1 := cell_of_row _ _ (k % 4) _ _ _ hM.2
          rw [row_get _ 4 (wpart_len G k) _ (by omega), wpart_get] at g1
          have g2 := frozen_of_row _ _ (k % 4) _ _ hM.2
          have g3 := hM.1.cell HFL.out (by omega) (r * 16 + k) (by omega)
          have HWG : Hid ((wpart G (k + 1)).getD (k % 4) 0 = F.getD ((r + 1) * 16 + k) 0) := by
            show _ = _
            rw [← wpart_set, List.getD, List.getElem?_set_self (by rw [wpart_len]; omega), HGN.out]; rfl
          have hxy := xor_u8' (G k) (F.getD (r * 16 + k) 0)
          rw [hkr] at hxy
          have q2 : Int.tmod (k : Int) 4 = ((k % 4 : Nat) : Int) := by rw [Int.tmod_eq_emod_of_nonneg (by omega)]; omega
          have q3 : (k : Int) % 4 = ((k % 4 : Nat) : Int) := by omega
          have l3 : ((k % 4 : Nat) : Int) < 4 := by omega
          have hm4 : k % 4 < 4 := by omega
          have q1 : IntKind.i64.wrap ((r : Int) + 1) = (r : Int) + 1 := wrap_i64_7 _ (by omega) (by omega)
          have l1 : (r : Int) + 1 < 11 := by omega
          obtain ⟨z, hz⟩ : ∃ z, z = F.getD ((r + 1) * 16 + k) 0 := ⟨_, rfl⟩
          have HSET : Hid (∀ W2, PT w KA TA ZA F g (wpart G (k + 1)) ((r + 1) * 16 + k) W2 → PT w KA TA ZA F g (wpart G (k + 1)) ((r + 1) * 16 + (k + 1)) (W2.setCell ⟨w.heap.size + 1 + 1 + 1, (r + 1) * 16 + k, none⟩ (.int .u8 (z.toNat : Int)))) := fun W2 h => by
            rw [hz]; exact h.set HFL.out (by omega) hswr
          rw [← hz] at H1 HWG hxy
          clear hM h1 hkr hz
          generalize k % 4 = m at *
          generalize F.getD (r * 16 + k) 0 = x at *
          generalize G k = y at *
          go_wp2
          go_region
          all_goals
            generalize (wr.setCell ⟨g, m, none⟩ (.int .u8 (z.toNat : Int))).drew = W2 at *
            have HS : Hid _ := (HSET.out W2 H1.out).drew
            obtain ⟨u, hu⟩ := bpart_cell' 176 F ((r + 1) * 16 + k) HFL.out (by omega)
            have g4 := cell_of_row _ _ ((r + 1) * 16 + k) _ _ _ H1.out.1.2.2.2.1
            rw [hu] at g4
            have g5 := frozen_of_row _ _ ((r + 1) * 16 + k) _ _ H1.out.1.2.2.2.1
            have g6 := cell_of_row _ _ m _ _ _ H1.out.2
            rw [row_get _ 4 (wpart_len G (k + 1)) _ hm4, HWG.out] at g6
            clear g1 g2 g3 hu
            go_wp2
            go_region
            all_goals
              go_wp2
              go_roundw
              case rel => exact ⟨k + 1, by omega, by go_num, HS.out⟩
              case measure => simp [intOf]; omega
        · have hk16 : k = 16 := by omega
          have hkI : ¬ (k : Int) < 16 := by omega
          have HM1 : Hid (PX w KA TA ZA F ((r + 1 + 1) * 16) wr) := by
            show PX _ _ _ _ _ _ _
            have := hM.1
            rw [hk16] at this
            rw [show (r + 1 + 1) * 16 = (r + 1) * 16 + 16 by omega]
            exact this
          clear hM hk16
          go_wp2_with fail
          refine (hpw _).mono ?_
          rintro e wx ⟨rfl, rfl⟩
          clear hpw
          go_wp2
          go_roundw
          case rel => exact ⟨r + 1, by omega, by go_num, HP1.out, HM1.out⟩
          case measure => simp [intOf]; omega
    · have hk' : r = 10 := by omega
      have hlt' : ¬ (r : Int) < 10 := by omega
      rw [hk'] at hM
      obtain ⟨h1, h2, h3, h4, h5, h6⟩ := hM
      rw [show (10 + 1) * 16 = 176 from rfl, bpart_all 176 F HFL.out] at h4
      obtain ⟨RS, hRS⟩ : ∃ RS, RS = (F.map B8).toArray := ⟨_, rfl⟩
      have hr8 : RS.size = 176 := by rw [hRS]; simp [HFL.out]
      have HRI : Hid ((Tryz.prog.info? 111).map (·.size) = some RS.size) := by show _ = _; rw [hr8]; kernel_rfl
      have HR1 : Hid (RS.all (·.oneCell') = true) := by show _ = _; rw [hRS]; exact B8_onea _
      rw [← hRS] at h4
      have HT' : Hid _ := h4
      have HR : Hid _ := h3
      have HR8 : Hid (ZA.size = RS.size) := HZS.out.trans hr8.symm
      have HRS : Hid _ := hRS
      clear h1 h2 h3 h4 hr8 hRS hk'
      go_wp2_with (first
        | (refine wpList_load_row rfl 111 _ rfl (w.heap.size + 1 + 1 + 1) rfl 111 _ (0, 0) _ HT'.out Tryz.underlying111 rfl HRI.out ?_)
        | (refine wpList_store_row rfl 111 _ _ rfl (w.heap.size + 1 + 1) _ rfl rfl 111 _ HR.out HRI.out HR8.out HR1.out ?_))
      refine bodyPost_ret (v := .agg RS) ?_ rfl ⟨by rw [HRS.out], below_setRow h5 (by omega) _⟩
      exact results_cell_row Tryz.results87 _ _ (w.heap.size + 1 + 1) 111 _ (0, 0) _ rfl (setRow_heap _ _ _ _ _ _ HR.out) Tryz.underlying111 rfl HRI.out

end Go.Proofs.YtbmmibmfjhehhaaGreat.AE

/- Contracts of aes's encipher, Encipher, Expand. -/
namespace Go.Proofs.YtbmmibmfjhehhaaGreat.AE
open Go.RowKit

theorem x4_1 (a b c d : UInt8) : 0 ^^^ b ^^^ c ^^^ d ^^^ a = 0 ^^^ a ^^^ b ^^^ c ^^^ d := by
  rw [x8_comm (0 ^^^ b ^^^ c ^^^ d) a, x8_comm 0 b, x8_zero, x8_comm 0 a, x8_zero, ← x8_assoc a (b ^^^ c) d, ← x8_assoc a b c]
theorem colA_get (s : List UInt8) (c i : Nat) (hs : s.length = 16) (hc : c < 4) (hi : i < 4) : (colA s c).getD i 0 = s.getD (4 * c + i) 0 := by
  have h1 : i < (colA s c).length := by rw [colA_len s c hs hc]; exact hi
  have h2 : 4 * c + i < s.length := by omega
  have := colA_at s c i h1 h2
  simp only [List.getD, List.getElem?_eq_getElem h1, List.getElem?_eq_getElem h2, Option.getD_some]
  exact this
theorem mcS_mxS (s f : List UInt8) (c r : Nat) (hs : s.length = 16) (hc : c < 4) (hr : r < 4) : mcS (colA s c) f r 4 = mxS s f c r 4 := by
  show 0 ^^^ tmP ((colA s c).getD ((r + 0) % 4) 0) (f.getD 0 0) ^^^ tmP ((colA s c).getD ((r + 1) % 4) 0) (f.getD 1 0) ^^^ tmP ((colA s c).getD ((r + 2) % 4) 0) (f.getD 2 0) ^^^ tmP ((colA s c).getD ((r + 3) % 4) 0) (f.getD 3 0) = 0 ^^^ tmA (s.getD (4 * c + 0) 0) (f.getD ((0 + 4 - r) % 4) 0) ^^^ tmA (s.getD (4 * c + 1) 0) (f.getD ((1 + 4 - r) % 4) 0) ^^^ tmA (s.getD (4 * c + 2) 0) (f.getD ((2 + 4 - r) % 4) 0) ^^^ tmA (s.getD (4 * c + 3) 0) (f.getD ((3 + 4 - r) % 4) 0)
  rw [colA_get s c _ hs hc (by omega), colA_get s c _ hs hc (by omega), colA_get s c _ hs hc (by omega), colA_get s c _ hs hc (by omega)]
  simp only [tmA_tmP]
  obtain rfl | rfl | rfl | rfl : r = 0 ∨ r = 1 ∨ r = 2 ∨ r = 3 := by omega
  · rfl
  · exact x4_1 _ _ _ _
  · exact (x4_1 _ _ _ _).trans (x4_1 _ _ _ _)
  · exact ((x4_1 _ _ _ _).trans (x4_1 _ _ _ _)).trans (x4_1 _ _ _ _)
theorem mdA_mxA (s f : List UInt8) (hs : s.length = 16) : mdA s f = mxA s f := by
  unfold mdA mxA
  apply List.map_congr_left
  intro j hj
  have : j < 16 := List.mem_range.1 hj
  exact mcS_mxS s f (j / 4) (j % 4) hs (by omega) (by omega)
theorem rtA_stA (t s : List UInt8) (hs : s.length = 16) : rtA (rpA t s) 1 = stA t s := by
  unfold rtA stA
  apply List.map_congr_left
  intro j hj
  have : j < 16 := List.mem_range.1 hj
  rw [Nat.one_mul, rpA_get t s 16 _ hs (by omega), Nat.mul_comm]

def EP (w : World) (KA TA ZA FA : Array Value) (l : List UInt8) (wr : World) : Prop :=
  wr.heap[w.heap.size]? = some (.cells KA 111 (0, 0)) ∧ wr.heap[w.heap.size + 1]? = some (.cells (l.map B8).toArray 86 (0, 0)) ∧ wr.heap[w.heap.size + 1 + 1]? = some (.cells TA 109 (0, 0)) ∧ wr.heap[w.heap.size + 1 + 1 + 1]? = some (.cells ZA 86 (0, 0)) ∧ wr.heap[w.heap.size + 1 + 1 + 1 + 1]? = some (.cells FA 125 (0, 0)) ∧ Below w.heap.size w wr ∧ w.heap.size + 5 ≤ wr.heap.size
theorem EP.drew {w : World} {KA TA ZA FA : Array Value} {l : List UInt8} {wr : World} (h : EP w KA TA ZA FA l wr) : EP w KA TA ZA FA l wr.drew := by
  unfold EP at *
  rw [heap_drew]
  exact ⟨h.1, h.2.1, h.2.2.1, h.2.2.2.1, h.2.2.2.2.1, h.2.2.2.2.2.1.drew, h.2.2.2.2.2.2⟩
theorem EP.below {w : World} {KA TA ZA FA : Array Value} {l : List UInt8} {a b : World} (h : EP w KA TA ZA FA l a) (hb : Below a.heap.size a b) : EP w KA TA ZA FA l b := by
  obtain ⟨h1, h2, h3, h4, h5, h6, h7⟩ := h
  exact ⟨(hb.block _ (by omega)).trans h1, (hb.block _ (by omega)).trans h2, (hb.block _ (by omega)).trans h3, (hb.block _ (by omega)).trans h4, (hb.block _ (by omega)).trans h5, h6.trans (hb.mono (by omega)), by have := hb.size; omega⟩
theorem EP.set {w : World} {KA TA ZA FA : Array Value} {l l' : List UInt8} {a : World} (h : EP w KA TA ZA FA l a) (N : Array Value) (hN : N = (l'.map B8).toArray) : EP w KA TA ZA FA l' (a.setRow (w.heap.size + 1) N) := by
  obtain ⟨h1, h2, h3, h4, h5, h6, h7⟩ := h
  refine ⟨?_, ?_, ?_, ?_, ?_, below_setRow h6 (by omega) _, by simpa using h7⟩
  · rw [setRow_other _ _ _ _ (by omega)]; exact h1
  · rw [hN]; exact setRow_heap _ _ _ _ _ _ h2
  · rw [setRow_other _ _ _ _ (by omega)]; exact h3
  · rw [setRow_other _ _ _ _ (by omega)]; exact h4
  · rw [setRow_other _ _ _ _ (by omega)]; exact h5
def ES (w : World) (KL : List Value) (o : Nat) (wr : World) : Prop :=
  wr.rangeAt w.heap.size o KL ∧ w.heap.size < wr.heap.size
theorem ES.below {w : World} {KL : List Value} {o B : Nat} {a b : World} (h : ES w KL o a) (hb : Below B a b) (hB : w.heap.size < B) : ES w KL o b :=
  ⟨fun j v hv => (hb.cell (by show w.heap.size < B; omega)).trans (h.1 j v hv), by have := hb.size; have := h.2; omega⟩
theorem info256 (RS : Array Value) (h : RS.size = 256) : (Tryz.prog.info? 109).map (·.size) = some RS.size := by rw [h]; kernel_rfl
set_option maxHeartbeats 8000000 in
set_option maxRecDepth 100000 in
theorem pencipher_any (ks s t : List UInt8) (w : World) (hk : ks.length = 176) (hs : s.length = 16) (ht : t.length = 256) :
    Calls Tryz.prog 88 #[.agg (ks.map B8).toArray, .agg (s.map B8).toArray, .agg (t.map B8).toArray] w fun e w' => e = .returned (.agg ((encA ks t s).map B8).toArray) ∧ Below w.heap.size w w' := by
  have HKL : Hid _ := fun i hi => keyA_len ks i hk hi
  have HEL : Hid _ := fun n hn => encR_len ks t s n hk hs hn
  have HES : Hid (∀ n, encR ks t s (n + 1) = xrA (if n + 1 < 10 then mdA (rtA (rpA t (encR ks t s n)) 1) [2, 3, 1, 1] else rtA (rpA t (encR ks t s n)) 1) (keyA ks (n + 1)) ∨ ¬ n < 10) := fun n => by
    by_cases h : n < 10
    · left
      have hl := encR_len ks t s n hk hs (by omega)
      rw [rtA_stA t _ hl, mdA_mxA _ _ (stA_len _ _)]; rfl
    · exact .inr h
  have HE0 : Hid (encR ks t s 0 = xrA s (keyA ks 0)) := rfl
  have HEN : Hid (encA ks t s = encR ks t s 10) := rfl
  have HKR : Hid (∀ (W : World) (b i : Nat), W.heap[b]? = some (.cells (ks.map B8).toArray 111 (0, 0)) → W.rangeAt b (16 * i) ((keyA ks i).map B8)) := fun W b i h => keyA_range i h
  have HRP : Hid (∀ l W, l.length = 16 → Calls Tryz.prog 107 #[.agg (l.map B8).toArray, .agg (t.map B8).toArray] W fun e w' => e = .returned (.agg ((rpA t l).map B8).toArray) ∧ Below W.heap.size W w') := fun l W hl => preplaced_any l t W hl ht
  generalize encA ks t s = R at *
  generalize encR ks t s = E at *
  obtain ⟨KA, hKA⟩ : ∃ KA, KA = (ks.map B8).toArray := ⟨_, rfl⟩
  obtain ⟨SA, hSA⟩ : ∃ SA, SA = (s.map B8).toArray := ⟨_, rfl⟩
  obtain ⟨TA, hTA⟩ : ∃ TA, TA = (t.map B8).toArray := ⟨_, rfl⟩
  have hTS : TA.size = 256 := by rw [hTA]; simp [ht]
  have HTI : Hid _ := info256 TA hTS
  have hSS : SA.size = 16 := by rw [hSA]; simp [hs]
  have HSI : Hid _ := info16 SA hSS
  have HSS : Hid _ := hSS
  rw [← hKA] at HKR
  rw [← hTA] at HRP
  obtain ⟨K0, hK0⟩ : ∃ K0, K0 = (keyA ks 0).map B8 := ⟨_, rfl⟩
  have hx0 := fun W => pxored_any s (keyA ks 0) W hs (HKL.out 0 (by omega))
  rw [← HE0.out, ← hSA, ← hK0] at hx0
  have HK0 : Hid _ := hK0
  have hKI0 : (Tryz.prog.info? 86).map (·.size) = some K0.length := by rw [hK0, List.length_map, HKL.out 0 (by omega)]; kernel_rfl
  have HKI0 : Hid _ := hKI0
  have HSA : Hid _ := hSA
  rw [← hKA, ← hSA, ← hTA]
  have hzv := fun W => zero16 W
  obtain ⟨ZA, hZA⟩ : ∃ ZA, ZA = ((List.replicate 16 (0 : UInt8)).map B8).toArray := ⟨_, rfl⟩
  rw [← hZA] at hzv
  have HZS : Hid (ZA.size = 16) := by show _ = _; rw [hZA]; simp
  obtain ⟨FA, hFA⟩ : ∃ FA : Array Value, FA = (([2, 3, 1, 1] : List UInt8).map B8).toArray := ⟨_, rfl⟩
  have hmx : ∀ W, Calls Tryz.prog 104 #[.agg #[.int .u8 2, .int .u8 3, .int .u8 1, .int .u8 1]] W fun e w' => e = .returned (.func (.func 119) #[] #[.pointer (some ⟨W.heap.size, 0, none⟩)]) ∧ w' = W.alloc (.cells FA 125 (0, 0)) := fun W => by rw [hFA]; exact pmixer_any [2, 3, 1, 1] W
  have HFA : Hid _ := hFA
  have HST : Hid (EP w KA TA ZA FA s ((((((w.alloc (.cells KA 111 (0, 0))).alloc (.cells SA 86 (0, 0))).alloc (.cells TA 109 (0, 0))).alloc (.cells ZA 86 (0, 0))).alloc (.cells FA 125 (0, 0))))) := by
    refine ⟨?_, ?_, ?_, ?_, ?_, (((((Below.refl _ _).alloc (Nat.le_refl _) _).alloc (by simp) _).alloc (by simp; omega) _).alloc (by simp; omega) _).alloc (by simp; omega) _, by simp⟩
    · rw [Below.heap_alloc _ _ _ (by simp; omega), Below.heap_alloc _ _ _ (by simp; omega), Below.heap_alloc _ _ _ (by simp; omega), Below.heap_alloc _ _ _ (by simp)]; exact heap_at _ _ _ (by simp)
    · rw [Below.heap_alloc _ _ _ (by first | (simp; done) | (simp; omega)), Below.heap_alloc _ _ _ (by first | (simp; done) | (simp; omega)), Below.heap_alloc _ _ _ (by simp), ← hSA]; exact heap_at _ _ _ (by simp)
    · rw [Below.heap_alloc _ _ _ (by first | (simp; done) | (simp; omega)), Below.heap_alloc _ _ _ (by simp)]; exact heap_at _ _ _ (by simp)
    · rw [Below.heap_alloc _ _ _ (by simp)]; exact heap_at _ _ _ (by simp)
    · exact heap_at _ _ _ (by simp)
  have HSR : Hid _ := HST.out.2.1
  rw [← hSA] at HSR
  clear hk hs ht hKA hSA hTA hTS hSS hK0 hKI0 hFA hZA
  go_enter Tryz.func88, Tryz.ntmps88
  go_wp2_with fail
  refine (hmx _).mono ?_
  rintro e w1 ⟨rfl, rfl⟩
  clear hmx
  go_wp2_with (first
    | (refine wpList_load_row rfl 86 _ rfl (w.heap.size + 1) rfl 86 SA (0, 0) _ HSR.out Tryz.underlying86 rfl HSI.out ?_)
    | (refine wpList_load_mid rfl 86 _ rfl w.heap.size 0 rfl K0 _ (by rw [HK0.out]; exact HKR.out _ w.heap.size 0 HST.out.1) Tryz.underlying86 rfl HKI0.out ?_))
  refine (hx0 _).mono ?_
  rintro e w1 ⟨rfl, hb1⟩
  have HE1 : Hid (EP w KA TA ZA FA s w1) := HST.out.below hb1
  have HE1R : Hid (w1.heap[w.heap.size + 1]? = some (.cells SA 86 (0, 0))) := by show _ = _; rw [HSA.out]; exact HE1.out.2.1
  clear HSR
  clear hb1 HST hx0
  have hl0 := HEL.out 0 (by omega)
  obtain ⟨NA, hNA⟩ : ∃ A, A = (List.map B8 (E 0)).toArray := ⟨_, rfl⟩
  have hNS : NA.size = 16 := by rw [hNA]; simp [hl0]
  have HNI : Hid _ := info16 NA hNS
  have HN1 : Hid (NA.all (·.oneCell') = true) := by show _ = _; rw [hNA]; exact B8_onea _
  have HNS : Hid _ := hNS
  have HNA : Hid _ := hNA
  clear hNS
  rw [← hNA]
  clear hl0 hNA
  go_wp2_with (first
    | (refine wpList_store_row rfl 86 _ _ rfl (w.heap.size + 1) NA rfl rfl 86 SA HE1R.out HNI.out (HSS.out.trans HNS.out.symm) HN1.out ?_))
  have HE2 : Hid (EP w KA TA ZA FA (E 0) (w1.setRow (w.heap.size + 1) NA)) := HE1.out.set NA HNA.out
  clear HE1 HE1R
  generalize w1.setRow (w.heap.size + 1) NA = w2 at *
  go_loopw [16] (fun i wr => ∃ n : Nat, n ≤ 10 ∧ i = .int .i64 n ∧ EP w KA TA ZA FA (E n) wr) (fun i _ => 10 - (intOf i).toNat)
  case atStart => exact ⟨0, by omega, rfl, HE2.out⟩
  case round =>
    clear HE2 HNA HNI HN1 HNS
    obtain ⟨n, hn, rfl, hM⟩ := hrel
    by_cases hlt : n < 10
    · have hnI : (n : Int) < 10 := by omega
      have HM0 : Hid (EP w KA TA ZA FA (E n) wr) := hM
      have hEl := HEL.out n (by omega)
      have hst : E (n + 1) = xrA (if n + 1 < 10 then mdA (rtA (rpA t (E n)) 1) [2, 3, 1, 1] else rtA (rpA t (E n)) 1) (keyA ks (n + 1)) := (HES.out n).resolve_right (fun h => h hlt)
      have hrp := fun W => HRP.out (E n) W hEl
      have hPl := rpA_len t (E n) 16 hEl
      have hrt := fun W => protated_any (rpA t (E n)) 1 W hPl (by omega)
      rw [show ((1 : Nat) : Int) = 1 from rfl] at hrt
      have hQl := rtA_len (rpA t (E n)) 1
      obtain ⟨LA, hLA⟩ : ∃ A, A = (List.map B8 (E n)).toArray := ⟨_, rfl⟩
      have hLS : LA.size = 16 := by rw [hLA]; simp [hEl]
      have HLI : Hid _ := info16 LA hLS
      have HL1 : Hid (LA.all (·.oneCell') = true) := by show _ = _; rw [hLA]; exact B8_onea _
      have HLS : Hid _ := hLS
      have HLA : Hid _ := hLA
      clear hLS
      rw [← hLA] at hrp
      generalize rpA t (E n) = P at *
      generalize rtA P 1 = Q at *
      have HLR : Hid (wr.heap[w.heap.size + 1]? = some (.cells LA 86 (0, 0))) := by show _ = _; rw [hLA]; exact hM.2.1
      have HTR : Hid (wr.heap[w.heap.size + 1 + 1]? = some (.cells TA 109 (0, 0))) := hM.2.2.1
      clear hM hLA
      go_wp2_with (first
        | (refine wpList_load_row rfl 86 _ rfl (w.heap.size + 1) rfl 86 LA (0, 0) _ HLR.out Tryz.underlying86 rfl HLI.out ?_)
        | (refine wpList_load_row rfl 109 _ rfl (w.heap.size + 1 + 1) rfl 109 TA (0, 0) _ HTR.out Tryz.underlying109 rfl HTI.out ?_))
      refine (hrp _).mono ?_
      rintro e w3 ⟨rfl, hb3⟩
      have HM3 : Hid (EP w KA TA ZA FA (E n) w3) := HM0.out.below hb3
      clear hb3 HM0 HLR HTR hrp
      go_wp2_with fail
      refine (hrt _).mono ?_
      rintro e w4 ⟨rfl, hb4⟩
      have HM4 : Hid (EP w KA TA ZA FA (E n) w4) := HM3.out.below hb4
      clear hb4 HM3 hrt
      obtain ⟨QA, hQA⟩ : ∃ A, A = (List.map B8 Q).toArray := ⟨_, rfl⟩
      have hQS : QA.size = 16 := by rw [hQA]; simp [hQl]
      have HQI : Hid _ := info16 QA hQS
      have HQ1 : Hid (QA.all (·.oneCell') = true) := by show _ = _; rw [hQA]; exact B8_onea _
      have HQS : Hid _ := hQS
      have HQA : Hid _ := hQA
      clear hQS
      have HLR : Hid (w4.heap[w.heap.size + 1]? = some (.cells LA 86 (0, 0))) := by show _ = _; rw [HLA.out]; exact HM4.out.2.1
      rw [← hQA]
      clear hQA
      have HM5 : Hid (EP w KA TA ZA FA Q (w4.setRow (w.heap.size + 1) QA)) := HM4.out.set QA HQA.out
      have HQR : Hid ((w4.setRow (w.heap.size + 1) QA).heap[w.heap.size + 1]? = some (.cells QA 86 (0, 0))) := setRow_heap _ _ _ _ _ _ HLR.out
      clear HM4
      by_cases h10 : n + 1 < 10
      · have hnJ : (n : Int) + 1 < 10 := by omega
        rw [if_pos h10] at hst
        have hmd := pmixed_any Q [2, 3, 1, 1] (w.heap.size + 1 + 1 + 1 + 1) (w4.setRow (w.heap.size + 1) QA) hQl rfl (by rw [← HFA.out]; exact HM5.out.2.2.2.2.1)
        have hXl := mdA_len Q [2, 3, 1, 1]
        generalize mdA Q [2, 3, 1, 1] = X at *
        rw [← HQA.out] at hmd
        go_wp2_with (first
          | (refine wpList_store_row rfl 86 _ _ rfl (w.heap.size + 1) QA rfl rfl 86 LA HLR.out HQI.out (HLS.out.trans HQS.out.symm) HQ1.out ?_)
          | (refine wpList_load_row rfl 86 _ rfl (w.heap.size + 1) rfl 86 QA (0, 0) _ HQR.out Tryz.underlying86 rfl HQI.out ?_))
        refine hmd.mono ?_
        rintro e w6 ⟨rfl, hb6⟩
        have HM6 : Hid (EP w KA TA ZA FA Q w6) := HM5.out.below hb6
        clear hb6 hmd
        obtain ⟨XA, hXA⟩ : ∃ A, A = (List.map B8 X).toArray := ⟨_, rfl⟩
        have hXS : XA.size = 16 := by rw [hXA]; simp [hXl]
        have HXI : Hid _ := info16 XA hXS
        have HX1 : Hid (XA.all (·.oneCell') = true) := by show _ = _; rw [hXA]; exact B8_onea _
        have HXS : Hid _ := hXS
        have HXA : Hid _ := hXA
        clear hXS
        rw [← hXA]
        clear hXA
        have HQ6 : Hid (w6.heap[w.heap.size + 1]? = some (.cells QA 86 (0, 0))) := by show _ = _; rw [HQA.out]; exact HM6.out.2.1
        go_wp2_with (first
          | (refine wpList_store_row rfl 86 _ _ rfl (w.heap.size + 1) XA rfl rfl 86 QA HQ6.out HXI.out (HQS.out.trans HXS.out.symm) HX1.out ?_))
        have HM7 : Hid (EP w KA TA ZA FA X (w6.setRow (w.heap.size + 1) XA)) := HM6.out.set XA HXA.out
        clear HM6 HQ6 HM5 HQR HLR
        generalize w6.setRow (w.heap.size + 1) XA = w7 at *
        have hKn := HKL.out (n + 1) (by omega)
        have hx := fun W => pxored_any X (keyA ks (n + 1)) W hXl hKn
        rw [← hst, ← HXA.out] at hx
        obtain ⟨KL, hKL⟩ : ∃ KL, KL = (keyA ks (n + 1)).map B8 := ⟨_, rfl⟩
        have hEn := HEL.out (n + 1) (by omega)
        obtain ⟨NA, hNA⟩ : ∃ A, A = (List.map B8 (E (n + 1))).toArray := ⟨_, rfl⟩
        have hNS : NA.size = 16 := by rw [hNA]; simp [hEn]
        have HNI : Hid _ := info16 NA hNS
        have HN1 : Hid (NA.all (·.oneCell') = true) := by show _ = _; rw [hNA]; exact B8_onea _
        have HNS : Hid _ := hNS
        have HNA : Hid _ := hNA
        clear hNS
        rw [← hNA, ← hKL] at hx
        have hiK : (Tryz.prog.info? 86).map (·.size) = some KL.length := by rw [hKL, List.length_map, hKn]; kernel_rfl
        have hu := Tryz.underlying86
        have HES0 : Hid (ES w KL ((n + 1) * 16) w7.drew) := by
          refine ⟨?_, by rw [heap_drew]; have := HM7.out.2.2.2.2.2.2; omega⟩
          rw [hKL, Nat.mul_comm]; exact HKR.out _ _ _ (by rw [heap_drew]; exact HM7.out.1)
        have HXR : Hid (w7.drew.heap[w.heap.size + 1]? = some (.cells XA 86 (0, 0))) := by show _ = _; rw [heap_drew, HXA.out]; exact HM7.out.2.1
        have hs7 : w.heap.size + 5 ≤ w7.heap.size := HM7.out.2.2.2.2.2.2
        clear hst hKL hNA hKn hEn
        try go_wp2
        refine wp_region_held_drew (S := ES w KL ((n + 1) * 16)) (by kernel_rfl) HES0.out (fun hHeld => ?_)
        refine wpAnyH_take (i := 1) (oi := ⟨some 31, .move (.tmp 9), 3, _, #[], none⟩) (v := .int .i64 ((n : Int) + 1)) rfl (by kernel_rfl) (by kernel_rfl) (by kernel_rfl) (fun _ _ _ h => h) (Or.inl ⟨by rfl, fun w' hw' => ?_⟩) hHeld ?_
        · first | (go_simp; done) | (go_simp; rfl)
        try simp only [Act.put, qT, q0, qS]
        refine wpAnyH_take (i := 2) (oi := ⟨some 32, .indexAddr 111 (.tmp 3) (.tmp 31), 0, _, #[⟨1, .data⟩], none⟩) (v := .pointer (some ⟨w.heap.size, (n + 1) * 16, none⟩)) rfl (by kernel_rfl) (by kernel_rfl) (by kernel_rfl) (fun _ _ _ h => h) (Or.inl ⟨by rfl, fun w' hw' => ?_⟩) hHeld ?_
        · first | (go_simp; done) | (go_simp; rfl) | (go_simp; intro hbad; omega)
        try simp only [Act.put, qT, q0, qS]
        refine wpAnyH_take (i := 3) (oi := ⟨some 33, .load 86 (.tmp 32), 86, _, #[⟨2, .data⟩], none⟩) rfl (by kernel_rfl) (by kernel_rfl) (by kernel_rfl) (fun _ _ _ h => h) (yieldsIf_load_mid (by rfl) 86 (.tmp 32) rfl (w.heap.size) ((n + 1) * 16) rfl (KL) _ (fun _ h => h.1) hu rfl hiK) hHeld ?_
        try simp only [Act.put, qT, q0, qS]
        refine wpAnyH_ready (rs := [0]) (by kernel_rfl) (by simp) ?_
        refine AllReadyH.cons (o := ⟨some 30, .load 86 (.tmp 4), 86, _, #[], none⟩) rfl (fun K hK => ?_) AllReadyH.nil
        rw [if_pos (by rfl)]
        refine wp_load_row 86 _ rfl (w.heap.size + 1) rfl 86 XA (0, 0) _ HXR.out Tryz.underlying86 rfl HXI.out ?_
        refine hK.out _ _ hHeld (fun _ => ?_)
        clear hK K
        try simp only [Act.put, qT, q0, qS]
        refine wpAnyH_ready (rs := [4]) (by kernel_rfl) (by simp) ?_
        refine AllReadyH.cons (o := { dst := some 34, op := .call { callee := Go.Callee.value (.func 105), args := #[.tmp 30, .tmp 33], argTypes := #[86, 86] }, type := 86, pos := _, after := #[⟨0, .data⟩, ⟨3, .data⟩], guard := none }) rfl (fun K hK => ?_) AllReadyH.nil
        rw [if_pos (by rfl)]
        go_wp2_with fail
        refine (hx _).mono ?_
        rintro e w8 ⟨rfl, hb8⟩
        have hb8' : Below w7.heap.size w7.drew w8 := hb8
        have hHeld8 := ES.below hHeld hb8' (by omega)
        have HM8 : Hid (EP w KA TA ZA FA X w8) := HM7.out.drew.below hb8
        clear hb8 hb8'
        refine hK.out _ _ hHeld8 (fun _ => ?_)
        clear hK K
        try simp only [Act.put, qT, q0, qS]
        refine wpAnyH_ready (rs := [5]) (by kernel_rfl) (by simp) ?_
        refine AllReadyH.cons (o := ⟨none, .store 86 (.tmp 4) (.tmp 34), 0, _, #[⟨4, .data⟩, ⟨4, .chain⟩, ⟨0, .phase⟩, ⟨1, .phase⟩, ⟨2, .phase⟩, ⟨3, .phase⟩, ⟨4, .phase⟩], none⟩) rfl (fun K hK => ?_) AllReadyH.nil
        rw [if_pos (by rfl)]
        have hX8 : w8.heap[w.heap.size + 1]? = some (.cells XA 86 (0, 0)) := by rw [HXA.out]; exact HM8.out.2.1
        refine wp_store_row 86 _ _ rfl (w.heap.size + 1) NA rfl rfl 86 _ hX8 HNI.out (HXS.out.trans HNS.out.symm) HN1.out ?_
        refine hK.out _ _ (ES.below hHeld8 (below_setRow (Below.refl (w.heap.size + 1) w8) (Nat.le_refl _) NA) (by omega)) (fun _ => ?_)
        clear hK K
        try simp only [Act.put, qT, q0, qS]
        refine wpAnyH_done (by kernel_rfl) ?_ _
        have HFIN : Hid (EP w KA TA ZA FA (E (n + 1)) (w8.setRow (w.heap.size + 1) NA)) := HM8.out.set NA HNA.out
        clear hHeld hHeld8 hX8 HM8 HM7 HXR HES0
        go_wp2
        go_roundw
        case rel => exact ⟨n + 1, by omega, by go_num, HFIN.out⟩
        case measure => simp [intOf]; omega
      · have hnJ : ¬ (n : Int) + 1 < 10 := by omega
        rw [if_neg h10] at hst
        go_wp2_with (first
          | (refine wpList_store_row rfl 86 _ _ rfl (w.heap.size + 1) QA rfl rfl 86 LA HLR.out HQI.out (HLS.out.trans HQS.out.symm) HQ1.out ?_))
        obtain ⟨X, hX⟩ : ∃ X, X = Q := ⟨_, rfl⟩
        subst hX
        have hXl := hQl
        obtain ⟨XA, hXA⟩ : ∃ XA, XA = QA := ⟨_, rfl⟩
        subst hXA
        have HXI : Hid _ := HQI.out
        have HX1 : Hid _ := HQ1.out
        have HXS : Hid _ := HQS.out
        have HXA : Hid _ := HQA.out
        have HM7 : Hid (EP w KA TA ZA FA X (w4.setRow (w.heap.size + 1) XA)) := HM5.out
        clear HM5 HQR HLR
        generalize w4.setRow (w.heap.size + 1) XA = w7 at *
        have hKn := HKL.out (n + 1) (by omega)
        have hx := fun W => pxored_any X (keyA ks (n + 1)) W hXl hKn
        rw [← hst, ← HXA.out] at hx
        obtain ⟨KL, hKL⟩ : ∃ KL, KL = (keyA ks (n + 1)).map B8 := ⟨_, rfl⟩
        have hEn := HEL.out (n + 1) (by omega)
        obtain ⟨NA, hNA⟩ : ∃ A, A = (List.map B8 (E (n + 1))).toArray := ⟨_, rfl⟩
        have hNS : NA.size = 16 := by rw [hNA]; simp [hEn]
        have HNI : Hid _ := info16 NA hNS
        have HN1 : Hid (NA.all (·.oneCell') = true) := by show _ = _; rw [hNA]; exact B8_onea _
        have HNS : Hid _ := hNS
        have HNA : Hid _ := hNA
        clear hNS
        rw [← hNA, ← hKL] at hx
        have hiK : (Tryz.prog.info? 86).map (·.size) = some KL.length := by rw [hKL, List.length_map, hKn]; kernel_rfl
        have hu := Tryz.underlying86
        have HES0 : Hid (ES w KL ((n + 1) * 16) w7.drew) := by
          refine ⟨?_, by rw [heap_drew]; have := HM7.out.2.2.2.2.2.2; omega⟩
          rw [hKL, Nat.mul_comm]; exact HKR.out _ _ _ (by rw [heap_drew]; exact HM7.out.1)
        have HXR : Hid (w7.drew.heap[w.heap.size + 1]? = some (.cells XA 86 (0, 0))) := by show _ = _; rw [heap_drew, HXA.out]; exact HM7.out.2.1
        have hs7 : w.heap.size + 5 ≤ w7.heap.size := HM7.out.2.2.2.2.2.2
        clear hst hKL hNA hKn hEn
        try go_wp2
        refine wp_region_held_drew (S := ES w KL ((n + 1) * 16)) (by kernel_rfl) HES0.out (fun hHeld => ?_)
        refine wpAnyH_take (i := 1) (oi := ⟨some 31, .move (.tmp 9), 3, _, #[], none⟩) (v := .int .i64 ((n : Int) + 1)) rfl (by kernel_rfl) (by kernel_rfl) (by kernel_rfl) (fun _ _ _ h => h) (Or.inl ⟨by rfl, fun w' hw' => ?_⟩) hHeld ?_
        · first | (go_simp; done) | (go_simp; rfl)
        try simp only [Act.put, qT, q0, qS]
        refine wpAnyH_take (i := 2) (oi := ⟨some 32, .indexAddr 111 (.tmp 3) (.tmp 31), 0, _, #[⟨1, .data⟩], none⟩) (v := .pointer (some ⟨w.heap.size, (n + 1) * 16, none⟩)) rfl (by kernel_rfl) (by kernel_rfl) (by kernel_rfl) (fun _ _ _ h => h) (Or.inl ⟨by rfl, fun w' hw' => ?_⟩) hHeld ?_
        · first | (go_simp; done) | (go_simp; rfl) | (go_simp; intro hbad; omega)
        try simp only [Act.put, qT, q0, qS]
        refine wpAnyH_take (i := 3) (oi := ⟨some 33, .load 86 (.tmp 32), 86, _, #[⟨2, .data⟩], none⟩) rfl (by kernel_rfl) (by kernel_rfl) (by kernel_rfl) (fun _ _ _ h => h) (yieldsIf_load_mid (by rfl) 86 (.tmp 32) rfl (w.heap.size) ((n + 1) * 16) rfl (KL) _ (fun _ h => h.1) hu rfl hiK) hHeld ?_
        try simp only [Act.put, qT, q0, qS]
        refine wpAnyH_ready (rs := [0]) (by kernel_rfl) (by simp) ?_
        refine AllReadyH.cons (o := ⟨some 30, .load 86 (.tmp 4), 86, _, #[], none⟩) rfl (fun K hK => ?_) AllReadyH.nil
        rw [if_pos (by rfl)]
        refine wp_load_row 86 _ rfl (w.heap.size + 1) rfl 86 XA (0, 0) _ HXR.out Tryz.underlying86 rfl HXI.out ?_
        refine hK.out _ _ hHeld (fun _ => ?_)
        clear hK K
        try simp only [Act.put, qT, q0, qS]
        refine wpAnyH_ready (rs := [4]) (by kernel_rfl) (by simp) ?_
        refine AllReadyH.cons (o := { dst := some 34, op := .call { callee := Go.Callee.value (.func 105), args := #[.tmp 30, .tmp 33], argTypes := #[86, 86] }, type := 86, pos := _, after := #[⟨0, .data⟩, ⟨3, .data⟩], guard := none }) rfl (fun K hK => ?_) AllReadyH.nil
        rw [if_pos (by rfl)]
        go_wp2_with fail
        refine (hx _).mono ?_
        rintro e w8 ⟨rfl, hb8⟩
        have hb8' : Below w7.heap.size w7.drew w8 := hb8
        have hHeld8 := ES.below hHeld hb8' (by omega)
        have HM8 : Hid (EP w KA TA ZA FA X w8) := HM7.out.drew.below hb8
        clear hb8 hb8'
        refine hK.out _ _ hHeld8 (fun _ => ?_)
        clear hK K
        try simp only [Act.put, qT, q0, qS]
        refine wpAnyH_ready (rs := [5]) (by kernel_rfl) (by simp) ?_
        refine AllReadyH.cons (o := ⟨none, .store 86 (.tmp 4) (.tmp 34), 0, _, #[⟨4, .data⟩, ⟨4, .chain⟩, ⟨0, .phase⟩, ⟨1, .phase⟩, ⟨2, .phase⟩, ⟨3, .phase⟩, ⟨4, .phase⟩], none⟩) rfl (fun K hK => ?_) AllReadyH.nil
        rw [if_pos (by rfl)]
        have hX8 : w8.heap[w.heap.size + 1]? = some (.cells XA 86 (0, 0)) := by rw [HXA.out]; exact HM8.out.2.1
        refine wp_store_row 86 _ _ rfl (w.heap.size + 1) NA rfl rfl 86 _ hX8 HNI.out (HXS.out.trans HNS.out.symm) HN1.out ?_
        refine hK.out _ _ (ES.below hHeld8 (below_setRow (Below.refl (w.heap.size + 1) w8) (Nat.le_refl _) NA) (by omega)) (fun _ => ?_)
        clear hK K
        try simp only [Act.put, qT, q0, qS]
        refine wpAnyH_done (by kernel_rfl) ?_ _
        have HFIN : Hid (EP w KA TA ZA FA (E (n + 1)) (w8.setRow (w.heap.size + 1) NA)) := HM8.out.set NA HNA.out
        clear hHeld hHeld8 hX8 HM8 HM7 HXR HES0
        go_wp2
        go_roundw
        case rel => exact ⟨n + 1, by omega, by go_num, HFIN.out⟩
        case measure => simp [intOf]; omega
    · have hk' : n = 10 := by omega
      have hlt' : ¬ (n : Int) < 10 := by omega
      rw [hk'] at hM
      have hl := HEL.out 10 (by omega)
      rw [← HEN.out] at hM hl
      obtain ⟨RA, hRA⟩ : ∃ A, A = (List.map B8 R).toArray := ⟨_, rfl⟩
      have hRS : RA.size = 16 := by rw [hRA]; simp [hl]
      have HRI : Hid _ := info16 RA hRS
      have HR1 : Hid (RA.all (·.oneCell') = true) := by show _ = _; rw [hRA]; exact B8_onea _
      have HRS : Hid _ := hRS
      have HRA : Hid _ := hRA
      clear hRS
      have HT' : Hid (wr.heap[w.heap.size + 1]? = some (.cells RA 86 (0, 0))) := by show _ = _; rw [hRA]; exact hM.2.1
      have HR : Hid _ := hM.2.2.2.1
      have HBW : Hid _ := hM.2.2.2.2.2.1
      clear hM hRA hl hk'
      go_wp2_with (first
        | (refine wpList_load_row rfl 86 _ rfl (w.heap.size + 1) rfl 86 _ (0, 0) _ HT'.out Tryz.underlying86 rfl HRI.out ?_)
        | (refine wpList_store_row rfl 86 _ _ rfl (w.heap.size + 1 + 1 + 1) _ rfl rfl 86 _ HR.out HRI.out (HZS.out.trans HRS.out.symm) HR1.out ?_))
      refine bodyPost_ret (v := .agg RA) ?_ rfl ⟨by rw [HRA.out], below_setRow HBW.out (by omega) _⟩
      exact results_cell_row Tryz.results88 _ _ (w.heap.size + 1 + 1 + 1) 86 _ (0, 0) _ rfl (setRow_heap _ _ _ _ _ _ HR.out) Tryz.underlying86 rfl HRI.out

end Go.Proofs.YtbmmibmfjhehhaaGreat.AE

/- Contracts of aes's Encipher and Expand. -/
namespace Go.Proofs.YtbmmibmfjhehhaaGreat.AE
open Go.RowKit

def CS (w : World) (g : Nat) (KL BL TL : List Value) (wr : World) : Prop :=
  wr.rangeAt w.heap.size 0 KL ∧ wr.rangeAt (w.heap.size + 1) 0 BL ∧ wr.rangeAt g 0 TL ∧ (∃ Z : Array Value, Z.size = 16 ∧ wr.heap[w.heap.size + 1 + 1]? = some (.cells Z 86 (0, 0))) ∧ Below w.heap.size w wr ∧ g < wr.heap.size
theorem CS.below {w : World} {g : Nat} {KL BL TL : List Value} {a b : World} (h : CS w g KL BL TL a) (hg : w.heap.size + 3 ≤ g) (hb : Below a.heap.size a b) : CS w g KL BL TL b := by
  obtain ⟨h1, h2, h3, ⟨Z, z1, z2⟩, h5, h6⟩ := h
  have := hb.size
  exact ⟨rangeAt_below h1 hb, rangeAt_below h2 hb, rangeAt_below h3 hb, ⟨Z, z1, (hb.block _ (by omega)).trans z2⟩, h5.trans (hb.mono (by omega)), by omega⟩
theorem CS.set {w : World} {g : Nat} {KL BL TL : List Value} {a : World} (h : CS w g KL BL TL a) (hg : w.heap.size + 3 ≤ g) (N : Array Value) (hN : N.size = 16) : CS w g KL BL TL (a.setRow (w.heap.size + 1 + 1) N) := by
  obtain ⟨h1, h2, h3, ⟨Z, z1, z2⟩, h5, h6⟩ := h
  exact ⟨rangeAt_setRow h1 (by omega), rangeAt_setRow h2 (by omega), rangeAt_setRow h3 (by omega), ⟨N, hN, setRow_heap _ _ _ _ _ _ z2⟩, below_setRow h5 (by omega) _, by simpa using h6⟩


def XS (w : World) (KL : List Value) (wr : World) : Prop :=
  wr.rangeAt w.heap.size 0 KL ∧ (∃ Z : Array Value, Z.size = 176 ∧ wr.heap[w.heap.size + 1]? = some (.cells Z 111 (0, 0))) ∧ Below w.heap.size w wr ∧ w.heap.size + 2 ≤ wr.heap.size
theorem XS.below {w : World} {KL : List Value} {a b : World} (h : XS w KL a) (hb : Below a.heap.size a b) : XS w KL b := by
  obtain ⟨h1, ⟨Z, z1, z2⟩, h5, h6⟩ := h
  have := hb.size
  exact ⟨rangeAt_below h1 hb, ⟨Z, z1, (hb.block _ (by omega)).trans z2⟩, h5.trans (hb.mono (by omega)), by omega⟩
theorem XS.set {w : World} {KL : List Value} {a : World} (h : XS w KL a) (N : Array Value) (hN : N.size = 176) : XS w KL (a.setRow (w.heap.size + 1) N) := by
  obtain ⟨h1, ⟨Z, z1, z2⟩, h5, h6⟩ := h
  exact ⟨rangeAt_setRow h1 (by omega), ⟨N, hN, setRow_heap _ _ _ _ _ _ z2⟩, below_setRow h5 (by omega) _, by simpa using h6⟩
theorem info176 (RS : Array Value) (h : RS.size = 176) : (Tryz.prog.info? 111).map (·.size) = some RS.size := by rw [h]; kernel_rfl

end Go.Proofs.YtbmmibmfjhehhaaGreat.AE

/- Contract of aes's Decipher. -/
namespace Go.Proofs.YtbmmibmfjhehhaaGreat.AE
open Go.RowKit

def Nrm (e : Exit) (p : Prop) : Prop := match e with
  | .normal => p
  | _ => False
theorem Nrm.out {e : Exit} {p : Prop} (h : Nrm e p) : e = .normal ∧ p := by
  cases e <;> first | exact ⟨rfl, h⟩ | exact False.elim h
def DS (w : World) (g : Nat) (KL TL : List Value) (SA ZA : Array Value) (wr : World) : Prop :=
  wr.rangeAt w.heap.size 0 KL ∧ wr.heap[w.heap.size + 1]? = some (.cells SA 86 (0, 0)) ∧ wr.rangeAt g 0 TL ∧ wr.heap[w.heap.size + 1 + 1]? = some (.cells ZA 86 (0, 0)) ∧ Below w.heap.size w wr ∧ w.heap.size + 3 ≤ g ∧ g < wr.heap.size
theorem DS.below {w : World} {g : Nat} {KL TL : List Value} {SA ZA : Array Value} {a b : World} (h : DS w g KL TL SA ZA a) (hb : Below a.heap.size a b) : DS w g KL TL SA ZA b := by
  obtain ⟨h1, h2, h3, h4, h5, h6, h7⟩ := h
  have := hb.size
  exact ⟨rangeAt_below h1 hb, (hb.block _ (by omega)).trans h2, rangeAt_below h3 hb, (hb.block _ (by omega)).trans h4, h5.trans (hb.mono (by omega)), h6, by omega⟩
theorem DS.row {w : World} {g b : Nat} {KL TL : List Value} {SA ZA : Array Value} {a : World} (h : DS w g KL TL SA ZA a) (hb : g < b) (N : Array Value) : DS w g KL TL SA ZA (a.setRow b N) := by
  obtain ⟨h1, h2, h3, h4, h5, h6, h7⟩ := h
  exact ⟨rangeAt_setRow h1 (by omega), by rw [setRow_other _ _ _ _ (by omega)]; exact h2, rangeAt_setRow h3 (by omega), by rw [setRow_other _ _ _ _ (by omega)]; exact h4, below_setRow h5 (by omega) _, h6, by simpa using h7⟩
def DP (w : World) (g6 g7 g8 : Nat) (FA UA XA ZA : Array Value) (l : List UInt8) (wr : World) : Prop :=
  wr.heap[g6]? = some (.cells FA 111 (0, 0)) ∧ wr.heap[g7]? = some (.cells UA 109 (0, 0)) ∧ wr.heap[g8]? = some (.cells XA 125 (0, 0)) ∧ wr.heap[w.heap.size + 1]? = some (.cells (l.map B8).toArray 86 (0, 0)) ∧ wr.heap[w.heap.size + 1 + 1]? = some (.cells ZA 86 (0, 0)) ∧ Below w.heap.size w wr
theorem DP.below {w : World} {g6 g7 g8 : Nat} {FA UA XA ZA : Array Value} {l : List UInt8} {a b : World} (h : DP w g6 g7 g8 FA UA XA ZA l a) (hb : Below a.heap.size a b) : DP w g6 g7 g8 FA UA XA ZA l b := by
  obtain ⟨h1, h2, h3, h4, h5, h6⟩ := h
  have := row_lt h4
  exact ⟨(hb.block _ (row_lt h1)).trans h1, (hb.block _ (row_lt h2)).trans h2, (hb.block _ (row_lt h3)).trans h3, (hb.block _ (row_lt h4)).trans h4, (hb.block _ (row_lt h5)).trans h5, h6.trans (hb.mono (by omega))⟩
theorem DP.drew {w : World} {g6 g7 g8 : Nat} {FA UA XA ZA : Array Value} {l : List UInt8} {wr : World} (h : DP w g6 g7 g8 FA UA XA ZA l wr) : DP w g6 g7 g8 FA UA XA ZA l wr.drew := by
  unfold DP at *
  rw [heap_drew]
  exact ⟨h.1, h.2.1, h.2.2.1, h.2.2.2.1, h.2.2.2.2.1, h.2.2.2.2.2.drew⟩
theorem DP.set {w : World} {g6 g7 g8 : Nat} {FA UA XA ZA : Array Value} {l l' : List UInt8} {a : World} (h : DP w g6 g7 g8 FA UA XA ZA l a) (h6 : w.heap.size + 3 ≤ g6) (h7 : w.heap.size + 3 ≤ g7) (h8 : w.heap.size + 3 ≤ g8) (N : Array Value) (hN : N = (l'.map B8).toArray) : DP w g6 g7 g8 FA UA XA ZA l' (a.setRow (w.heap.size + 1) N) := by
  obtain ⟨k1, k2, k3, k4, k5, k6⟩ := h
  refine ⟨?_, ?_, ?_, ?_, ?_, below_setRow k6 (by omega) _⟩
  · rw [setRow_other _ _ _ _ (by omega)]; exact k1
  · rw [setRow_other _ _ _ _ (by omega)]; exact k2
  · rw [setRow_other _ _ _ _ (by omega)]; exact k3
  · rw [hN]; exact setRow_heap _ _ _ _ _ _ k4
  · rw [setRow_other _ _ _ _ (by omega)]; exact k5



def ES2 (g : Nat) (KL : List Value) (o : Nat) (wr : World) : Prop := wr.rangeAt g o KL ∧ g < wr.heap.size
theorem ES2.below {g : Nat} {KL : List Value} {o : Nat} {a b : World} (h : ES2 g KL o a) (hb : Below a.heap.size a b) : ES2 g KL o b :=
  ⟨rangeAt_below h.1 hb, by have := hb.size; have := h.2; omega⟩
theorem ES2.row {g b : Nat} {KL : List Value} {o : Nat} {a : World} (h : ES2 g KL o a) (hb : g ≠ b) (N : Array Value) : ES2 g KL o (a.setRow b N) :=
  ⟨rangeAt_setRow h.1 hb, by simpa using h.2⟩



end Go.Proofs.YtbmmibmfjhehhaaGreat.AE

/- Contract of aes's counted. -/
namespace Go.Proofs.YtbmmibmfjhehhaaGreat.AE
open Go.RowKit

def ctA (nonce : List UInt8) (i : Nat) : List UInt8 := nonce ++ (W1.le 8 i).reverse
theorem ctA_len (nonce : List UInt8) (i : Nat) (h : nonce.length = 8) : (ctA nonce i).length = 16 := by unfold ctA; simp [h, W1.le_length]
theorem slice8 (w : World) (b : Nat) : (Instr.sliceAt 87 (.pointer (some ⟨b, 0, none⟩)) none none none).run Tryz.prog w = .ok (.slice (some ⟨b, 0, none⟩) 8 8) w := by
  have ha : Tryz.prog.arrayLen 87 = 8 := by kernel_rfl
  have hu : Tryz.prog.underlying 87 = some (.array (Tryz.prog.arrayLen 87) (Tryz.prog.elem 87)) := by kernel_rfl
  have he : Tryz.prog.elem 87 = 5 := by kernel_rfl
  rw [run_sliceAt_array_all w 87 _ hu, he, size_u8, ha]
  have hadd : (⟨b, 0, none⟩ : Addr).add (0 * 1) = ⟨b, 0, none⟩ := by unfold Addr.add; split <;> simp_all
  simp [Result.andThen, slicedAt, hadd]
theorem _root_.Go.Proofs.YtbmmibmfjhehhaaGreat.HB.ofRow8 {W : World} {b : Nat} {l : List UInt8} {t : TypeId} {fr : Nat × Nat} (k : Nat) (hk : k = l.length) (hl : l.length ≤ 1099511627776) (h : W.heap[b]? = some (.cells (l.map B8).toArray t fr)) : HB W (.slice (some ⟨b, 0, none⟩) k k) l := by
  subst hk
  refine .inr ⟨_, 0, _, rfl, Nat.le_refl _, by unfold maxLen; omega, fun i hi => ?_⟩
  rw [Nat.zero_add, cell_of_row _ _ i _ _ _ h]
  simp [B8, List.getD, List.getElem?_eq_getElem hi]
theorem slArr16 (w : World) (a : Option Addr) (len cap : Nat) (h : 16 ≤ len) : (Instr.arrayAt 86 (.slice a len cap)).run Tryz.prog w = .ok (.pointer a) w := by
  have hn : ¬ len < 16 := by omega
  simp [Instr.arrayAt, run_underlying Tryz.underlying86, hn]
def CW (w : World) (NA : Array Value) (v : Value) (L : List UInt8) (wr : World) : Prop :=
  wr.heap[w.heap.size]? = some (.cells NA 87 (0, 0)) ∧ HB wr v L ∧ (∃ Z : Array Value, Z.size = 16 ∧ wr.heap[w.heap.size + 1]? = some (.cells Z 86 (0, 0))) ∧ Below w.heap.size w wr ∧ w.heap.size + 2 ≤ wr.heap.size
theorem CW.below {w : World} {NA : Array Value} {v : Value} {L : List UInt8} {a b : World} (h : CW w NA v L a) (hb : Below a.heap.size a b) : CW w NA v L b := by
  obtain ⟨h1, h2, ⟨Z, z1, z2⟩, h4, h5⟩ := h
  have := hb.size
  exact ⟨(hb.block _ (by omega)).trans h1, h2.below hb, ⟨Z, z1, (hb.block _ (by omega)).trans z2⟩, h4.trans (hb.mono (by omega)), by omega⟩

set_option maxHeartbeats 8000000 in
set_option maxRecDepth 100000 in
theorem pcounted_any (nonce : List UInt8) (i : Nat) (w : World) (hn : nonce.length = 8) (hi : i < 9223372036854775808) :
    Calls Tryz.prog 89 #[.agg (nonce.map B8).toArray, .int .i64 (i : Int)] w fun e w' => e = .returned (.agg ((ctA nonce i).map B8).toArray) ∧ Below w.heap.size w w' := by
  have hput := fun W => put_ok i 8 W (by decide) (by decide) (by omega) (by omega)
  have hLl : (W1.le 8 i).length = 8 := W1.le_length _ _
  have hRl := ctA_len nonce i hn
  have HCT : Hid (ctA nonce i = [nonce, (W1.le 8 i).reverse].flatten) := by show _ = _; unfold ctA; simp
  generalize ctA nonce i = R at *
  generalize W1.le 8 i = L at *
  obtain ⟨NA, hNA⟩ : ∃ A, A = (nonce.map B8).toArray := ⟨_, rfl⟩
  obtain ⟨RL, hRL⟩ : ∃ A, A = R.map B8 := ⟨_, rfl⟩
  rw [← hNA]
  have HRS : Hid (RL.toArray.size = 16) := by show _ = _; rw [hRL]; simp [hRl]
  have HRI : Hid _ := info16 RL.toArray HRS.out
  have HR1 : Hid (RL.toArray.all (·.oneCell') = true) := by show _ = _; rw [hRL]; exact B8_onea _
  have HRL : Hid _ := hRL
  have HRl : Hid _ := hRl
  have HNA : Hid _ := hNA
  have HNL : Hid _ := hn
  have HLL : Hid _ := hLl
  have hzv := fun W => zero16 W
  obtain ⟨ZA, hZA⟩ : ∃ ZA, ZA = ((List.replicate 16 (0 : UInt8)).map B8).toArray := ⟨_, rfl⟩
  rw [← hZA] at hzv
  have HZS : Hid (ZA.size = 16) := by show _ = _; rw [hZA]; simp
  have hwr : IntKind.u64.wrap (i : Int) = (i : Int) := by rw [IntKind.wrap_u64]; omega
  clear hn hNA hRL hRl hZA hLl
  go_enter Tryz.func89, Tryz.ntmps89
  go_wp2_with fail
  refine (hput _).mono ?_
  rintro e w1 ⟨rfl, hfb, hb1⟩
  have HCW : Hid (CW w NA (.slice (some ⟨w.heap.size + 1 + 1, 0, none⟩) 8 8) L w1.drew) := by
    have hs := hb1.size
    simp at hs
    have hfb' : FB (w.heap.size + 1 + 1) w1 (.slice (some ⟨w.heap.size + 1 + 1, 0, none⟩) 8 8) L := by simpa using hfb
    refine ⟨by rw [heap_drew]; exact (hb1.block _ (by first | (simp; done) | (simp; omega))).trans (alloc2_first _ _ _), HB.drew' hfb'.hb, ⟨ZA, HZS.out, by rw [heap_drew]; exact (hb1.block _ (by simp)).trans (heap_at _ _ _ (by simp))⟩, ((((Below.refl _ _).alloc (Nat.le_refl _) _).alloc (by simp) _).trans (hb1.mono (by first | (simp; done) | (simp; omega)))).drew, by rw [heap_drew]; omega⟩
  clear hput hfb hb1
  have hsl := fun W => slice8 W w.heap.size
  go_wp2
  refine wp_region_held_drew (S := CW w NA (.slice (some ⟨w.heap.size + 1 + 1, 0, none⟩) 8 8) L) (by kernel_rfl) HCW.out (fun hHeld => ?_)
  clear HCW
  generalize w1.drew = W0 at *
  refine wpAnyH_take (i := 0) (oi := ⟨some 13, .slice 87 (.tmp 2) none none none, 64, _, #[], none⟩) (v := .slice (some ⟨w.heap.size, 0, none⟩) 8 8) rfl (by kernel_rfl) (by kernel_rfl) (by kernel_rfl) (fun _ _ _ h => h) (Or.inl ⟨by rfl, fun w' hw' => ?_⟩) hHeld ?_
  · first | (go_simp; done) | (go_simp; rfl)
  try simp only [Act.put, qT, q0, qS]
  refine wpAnyH_take (i := 1) (oi := ⟨some 14, .move (.tmp 5), 64, _, #[], none⟩) (v := .slice (some ⟨w.heap.size + 1 + 1, 0, none⟩) 8 8) rfl (by kernel_rfl) (by kernel_rfl) (by kernel_rfl) (fun _ _ _ h => h) (Or.inl ⟨by rfl, fun w' hw' => ?_⟩) hHeld ?_
  · first | (go_simp; done) | (go_simp; rfl)
  try simp only [Act.put, qT, q0, qS]
  refine wpAnyH_ready (rs := [2]) (by kernel_rfl) (by simp) ?_
  refine AllReadyH.cons (o := { dst := some 15, op := .call { callee := Go.Callee.value (.func 109), args := #[.tmp 14], argTypes := #[64] }, type := 64, pos := _, after := #[⟨1, .data⟩], guard := none }) rfl (fun K hK => ?_) AllReadyH.nil
  rw [if_pos (by rfl)]
  go_wp2_with fail
  refine (turned_any (.slice (some ⟨w.heap.size + 1 + 1, 0, none⟩) 8 8) L _ (by rw [HLL.out]; decide) hHeld.2.1).mono ?_
  rintro e w3 ⟨rfl, hfT, hbT⟩
  have hHeld3 := CW.below hHeld hbT
  rw [HLL.out] at hfT
  have hT := hfT.hb
  rw [HLL.out]
  generalize W0.heap.size = g3 at *
  have hnon : HB w3 (.slice (some ⟨w.heap.size, 0, none⟩) 8 8) nonce := HB.ofRow8 8 HNL.out.symm (by rw [HNL.out]; decide) (by rw [← HNA.out]; exact hHeld3.1)
  clear hfT hbT
  refine hK.out _ _ hHeld3 (fun _ => ?_)
  clear hK K
  try simp only [Act.put, qT, q0, qS]
  refine wpAnyH_ready (rs := [3]) (by kernel_rfl) (by simp) ?_
  refine AllReadyH.cons (o := ⟨some 16, .buildSlice 93 2 #[(0, .tmp 13), (1, .tmp 15)], 93, _, #[⟨0, .data⟩, ⟨2, .data⟩], none⟩) rfl (fun K hK => ?_) AllReadyH.nil
  rw [if_pos (by rfl)]
  go_wp2_with fail
  have hb4 : Below w3.heap.size w3 (w3.alloc (.cells #[.slice (some ⟨w.heap.size, 0, none⟩) 8 8, .slice (some ⟨g3, 0, none⟩) 8 8] 64 (0, 0))) := (Below.refl _ _).alloc (Nat.le_refl _) _
  have hHeld4 := CW.below hHeld3 hb4
  have hcel : ∀ k, k < [nonce, L.reverse].length → ∃ u, (w3.alloc (.cells #[.slice (some ⟨w.heap.size, 0, none⟩) 8 8, .slice (some ⟨g3, 0, none⟩) 8 8] 64 (0, 0))).cell? ⟨w3.heap.size, k, none⟩ = some u ∧ HB (w3.alloc (.cells #[.slice (some ⟨w.heap.size, 0, none⟩) 8 8, .slice (some ⟨g3, 0, none⟩) 8 8] 64 (0, 0))) u ([nonce, L.reverse].getD k []) := by
    intro k hk
    rcases (show k = 0 ∨ k = 1 by simp at hk; omega) with rfl | rfl
    · exact ⟨_, cell_of_row _ _ 0 _ _ _ (heap_at _ _ _ rfl), HB.alloc hnon _⟩
    · exact ⟨_, cell_of_row _ _ 1 _ _ _ (heap_at _ _ _ rfl), HB.alloc hT _⟩
  refine hK.out _ _ hHeld4 (fun _ => ?_)
  clear hK K
  try simp only [Act.put, qT, q0, qS]
  refine wpAnyH_ready (rs := [4]) (by kernel_rfl) (by simp) ?_
  refine AllReadyH.cons (o := { dst := some 17, op := .call { callee := Go.Callee.value (.func 37), args := #[.tmp 16], argTypes := #[93] }, type := 64, pos := _, after := #[⟨3, .data⟩, ⟨2, .chain⟩], guard := none }) rfl (fun K hK => ?_) AllReadyH.nil
  rw [if_pos (by rfl)]
  go_wp2_with fail
  refine (join_any w3.heap.size 2 [nonce, L.reverse] _ (by simp) (by simp [HNL.out, HLL.out]) hcel).mono ?_
  rintro e w5 ⟨v, rfl, hfJ, hbJ⟩
  have hHeld5 := CW.below hHeld4 hbJ
  rw [← HCT.out] at hfJ
  have hJ := hfJ.hb
  clear hb4 hcel hnon hT hHeld4 hHeld3 hHeld hfJ hbJ
  refine hK.out _ _ hHeld5 (fun _ => ?_)
  clear hK K
  try simp only [Act.put, qT, q0, qS]
  rcases hJ with ⟨hnil, _⟩ | ⟨b, o, cap, rfl, _, _, hc⟩
  · exfalso
    have := HRl.out
    rw [hnil] at this
    simp at this
  have hrg : w5.rangeAt b o RL := fun j u hu => by
    rw [HRL.out, List.getElem?_map] at hu
    have hj : j < R.length := by
      rcases Nat.lt_or_ge j R.length with h | h
      · exact h
      · rw [List.getElem?_eq_none h] at hu; simp at hu
    rw [hc j hj]
    rw [List.getElem?_eq_getElem hj] at hu
    rw [← hu]
    simp [B8, List.getD, List.getElem?_eq_getElem hj]
  rw [HRl.out]
  have hsa := fun W => slArr16 W (some ⟨b, o, none⟩) 16 cap (Nat.le_refl _)
  clear hc
  have hHeld := hHeld5
  refine wpAnyH_take (i := 5) (oi := ⟨some 18, .sliceToArrayPointer 86 (.tmp 17), 0, _, #[⟨4, .data⟩], none⟩) (v := .pointer (some ⟨b, o, none⟩)) rfl (by kernel_rfl) (by kernel_rfl) (by kernel_rfl) (fun _ _ _ h => h) (Or.inl ⟨by rfl, fun w' hw' => ?_⟩) hHeld ?_
  · first | (go_simp; done) | (go_simp; rfl)
  try simp only [Act.put, qT, q0, qS]
  refine wpAnyH_ready (rs := [6]) (by kernel_rfl) (by simp) ?_
  refine AllReadyH.cons (o := ⟨some 19, .load 86 (.tmp 18), 86, _, #[⟨5, .data⟩], none⟩) rfl (fun K hK => ?_) AllReadyH.nil
  rw [if_pos (by rfl)]
  refine wp_load_mid 86 _ rfl b o rfl RL _ hrg Tryz.underlying86 rfl (by have := HRI.out; rwa [List.size_toArray] at this) ?_
  refine hK.out _ _ hHeld5 (fun _ => ?_)
  clear hK K
  try simp only [Act.put, qT, q0, qS]
  refine wpAnyH_ready (rs := [7]) (by kernel_rfl) (by simp) ?_
  refine AllReadyH.cons (o := ⟨none, .store 86 (.tmp 4) (.tmp 19), 0, _, #[⟨6, .data⟩, ⟨4, .chain⟩, ⟨0, .phase⟩, ⟨1, .phase⟩, ⟨2, .phase⟩, ⟨3, .phase⟩, ⟨4, .phase⟩, ⟨5, .phase⟩, ⟨6, .phase⟩], none⟩) rfl (fun K hK => ?_) AllReadyH.nil
  rw [if_pos (by rfl)]
  obtain ⟨Z, hZ, hZr⟩ := hHeld5.2.2.1
  refine wp_store_row 86 _ _ rfl (w.heap.size + 1) RL.toArray rfl rfl 86 _ hZr HRI.out (hZ.trans HRS.out.symm) HR1.out ?_
  have hHeld6 : CW w NA (.slice (some ⟨w.heap.size + 1 + 1, 0, none⟩) 8 8) L (w5.setRow (w.heap.size + 1) RL.toArray) := by
    obtain ⟨h1, h2, h3, h4, h5⟩ := hHeld5
    refine ⟨by rw [setRow_other _ _ _ _ (by omega)]; exact h1, ?_, ⟨RL.toArray, HRS.out, setRow_heap _ _ _ _ _ _ hZr⟩, below_setRow h4 (by omega) _, by simpa using h5⟩
    rcases h2 with ⟨e1, p, cp, e2, e3⟩ | ⟨b', o', cp, e1, e2, e3, e4⟩
    · exact .inl ⟨e1, p, cp, e2, e3⟩
    · refine .inr ⟨b', o', cp, e1, e2, e3, fun k hk => ?_⟩
      simp only [Value.slice.injEq, Option.some.injEq, Addr.mk.injEq] at e1
      rw [cell_setRow_other _ _ _ _ (by show b' ≠ _; omega)]; exact e4 k hk
  refine hK.out _ _ hHeld6 (fun _ => ?_)
  clear hK K
  try simp only [Act.put, qT, q0, qS]
  refine wpAnyH_done (by kernel_rfl) ?_ _
  have HR5 : Hid _ := setRow_heap _ _ _ RL.toArray _ _ hZr
  have HB5 : Hid _ := hHeld6.2.2.2.1
  clear hHeld hHeld5 hHeld6
  go_wp2
  refine bodyPost_ret (v := .agg RL.toArray) ?_ rfl ⟨by rw [HRL.out], HB5.out⟩
  exact results_cell_row Tryz.results89 _ _ (w.heap.size + 1) 86 _ (0, 0) _ rfl HR5.out Tryz.underlying86 rfl HRI.out

end Go.Proofs.YtbmmibmfjhehhaaGreat.AE

/- Contracts of aes's Stream and Mask where they refuse, and of an empty stream. -/
namespace Go.Proofs.YtbmmibmfjhehhaaGreat.AE
open Go.RowKit

end Go.Proofs.YtbmmibmfjhehhaaGreat.AE

/- Contract of aes's Stream, of a number that may be. -/
namespace Go.Proofs.YtbmmibmfjhehhaaGreat.AE
open Go.RowKit

theorem _root_.Go.Proofs.YtbmmibmfjhehhaaGreat.FB.below {B : Nat} {v : Value} {l : List UInt8} {w w' : World} (h : FB B w v l) (hb : Below w.heap.size w w') : FB B w' v l :=
  h.kept (row := none) ⟨hb.os, hb.tape, hb.output, hb.size, fun j hj _ => hb.block j hj⟩ (by cases hv : v.ownBlock <;> simp)
def skB (key nonce : List UInt8) (i : Nat) : List UInt8 := encA (exA key tabA) tabA (ctA nonce i)
theorem skB_len (key nonce : List UInt8) (i : Nat) (hk : key.length = 16) (hn : nonce.length = 8) : (skB key nonce i).length = 16 := encR_len _ _ _ 10 (exA_len key tabA hk) (ctA_len nonce i hn) (by omega)
def skC (key nonce : List UInt8) : Nat → List UInt8
  | 0 => []
  | k + 1 => skC key nonce k ++ skB key nonce k
theorem skC_len (key nonce : List UInt8) (k : Nat) (hk : key.length = 16) (hn : nonce.length = 8) : (skC key nonce k).length = 16 * k := by
  induction k with
  | zero => rfl
  | succ k ih => unfold skC; rw [List.length_append, ih, skB_len key nonce k hk hn]; omega
def skA (key nonce : List UInt8) (n : Nat) : List UInt8 := (skC key nonce ((n + 15) / 16)).take n
theorem skA_len (key nonce : List UInt8) (n : Nat) (hk : key.length = 16) (hn : nonce.length = 8) : (skA key nonce n).length = n := by
  unfold skA
  rw [List.length_take, skC_len key nonce _ hk hn]; omega
theorem skC_step (key nonce : List UInt8) (n k : Nat) (hk : key.length = 16) (hn : nonce.length = 8) (h : 16 * k < n) : (skC key nonce (k + 1)).take n = (skC key nonce k).take n ++ (skB key nonce k).take (min 16 (n - 16 * k)) := by
  have hl := skC_len key nonce k hk hn
  have hb := skB_len key nonce k hk hn
  show (skC key nonce k ++ skB key nonce k).take n = _
  revert hl hb
  generalize skC key nonce k = c
  generalize skB key nonce k = bb
  intro hl hb
  rw [List.take_append, hl]
  congr 1
  by_cases h16 : 16 ≤ n - 16 * k
  · rw [Nat.min_eq_left h16, List.take_of_length_le (by omega), List.take_of_length_le (by omega)]
  · rw [Nat.min_eq_right (by omega)]
def SW (w5 : World) (B n1 g8 g9 : Nat) (NL TL FL : List Value) (v : Value) (l : List UInt8) (wr : World) : Prop :=
  wr.rangeAt n1 0 NL ∧ wr.rangeAt g8 0 TL ∧ wr.rangeAt g9 0 FL ∧ FB B wr v l ∧ Below B w5 wr ∧ B ≤ wr.heap.size
theorem SW.below {w5 : World} {B n1 g8 g9 : Nat} {NL TL FL : List Value} {v : Value} {l : List UInt8} {a b : World} (h : SW w5 B n1 g8 g9 NL TL FL v l a) (hb : Below a.heap.size a b) : SW w5 B n1 g8 g9 NL TL FL v l b := by
  obtain ⟨h1, h2, h3, h4, h5, h6⟩ := h
  have := hb.size
  exact ⟨rangeAt_below h1 hb, rangeAt_below h2 hb, rangeAt_below h3 hb, h4.below hb, h5.trans (hb.mono h6), by omega⟩
theorem SW.row {w5 : World} {B n1 g8 g9 g : Nat} {NL TL FL : List Value} {v : Value} {l : List UInt8} {a b : World} (h : SW w5 B n1 g8 g9 NL TL FL v l a) (hb : Below g a b) (hs : a.heap.size = g) : SW w5 B n1 g8 g9 NL TL FL v l b := by
  subst hs; exact h.below hb
theorem sliceTo16 (w : World) (b k : Nat) (hk : k ≤ 16) : (Instr.sliceAt 86 (.pointer (some ⟨b, 0, none⟩)) none (some (.int .i64 (k : Int))) none).run Tryz.prog w = .ok (.slice (some ⟨b, 0, none⟩) k 16) w := by
  have ha : Tryz.prog.arrayLen 86 = 16 := by kernel_rfl
  have hu : Tryz.prog.underlying 86 = some (.array (Tryz.prog.arrayLen 86) (Tryz.prog.elem 86)) := by kernel_rfl
  have he : Tryz.prog.elem 86 = 5 := by kernel_rfl
  rw [run_sliceAt_array_h w 86 _ hu .i64 _ (by omega) (by rw [ha]; omega), he, size_u8, ha]
  have hadd : (⟨b, 0, none⟩ : Addr).add (0 * 1) = ⟨b, 0, none⟩ := by unfold Addr.add; split <;> simp_all
  simp [Result.andThen, slicedAt, hadd]





set_option maxHeartbeats 8000000 in
set_option maxRecDepth 100000 in
theorem pstream_any (key nonce : List UInt8) (n : Nat) (w : World) (hk : key.length = 16) (hn : nonce.length = 8) (hN : n ≤ 1048576) :
    Calls Tryz.prog 72 #[.agg (key.map B8).toArray, .agg (nonce.map B8).toArray, .int .i64 (n : Int)] w fun e w' => ∃ v, e = .returned (.tuple #[v, .int .i64 0]) ∧ FB w.heap.size w' v (skA key nonce n) ∧ Below w.heap.size w w' := by
  have hsu := fun W => pallSubs_any W
  have hex := fun W => pexpand_any key tabA W hk tabA_len
  have hct := fun (i : Nat) (hi : i < 9223372036854775808) W => pcounted_any nonce i W hn hi
  have hen := fun (i : Nat) W => pencipher_any (exA key tabA) (ctA nonce i) tabA W (exA_len key tabA hk) (ctA_len nonce i hn) tabA_len
  have hFl := exA_len key tabA hk
  have htl := tabA_len
  have HBL : Hid (∀ i, (skB key nonce i).length = 16) := fun i => skB_len key nonce i hk hn
  have HCS : Hid (∀ k, 16 * k < n → _) := fun k h => skC_step key nonce n k hk hn h
  have HCL : Hid _ := fun k => skC_len key nonce k hk hn
  have HSA : Hid (skA key nonce n = (skC key nonce ((n + 15) / 16)).take n) := rfl
  have HC0 : Hid (skC key nonce 0 = []) := rfl
  have hen' : ∀ (i : Nat) (W : World), Calls Tryz.prog 88 #[.agg ((exA key tabA).map B8).toArray, .agg ((ctA nonce i).map B8).toArray, .agg (tabA.map B8).toArray] W fun e w' => e = .returned (.agg ((skB key nonce i).map B8).toArray) ∧ Below W.heap.size W w' := fun i W => hen i W
  clear hen
  generalize skA key nonce n = R at *
  generalize skC key nonce = C at *
  generalize skB key nonce = BB at *
  generalize exA key tabA = F at *
  generalize tabA = T at *
  obtain ⟨KA, hKA⟩ : ∃ A, A = (key.map B8).toArray := ⟨_, rfl⟩
  obtain ⟨NL, hNL⟩ : ∃ A, A = nonce.map B8 := ⟨_, rfl⟩
  obtain ⟨TL, hTL⟩ : ∃ A, A = T.map B8 := ⟨_, rfl⟩
  obtain ⟨FL, hFL⟩ : ∃ A, A = F.map B8 := ⟨_, rfl⟩
  rw [← hKA] at hex
  rw [← hTL] at hsu hex hen'
  rw [← hFL] at hex hen'
  rw [← hNL] at hct
  rw [← hKA, ← hNL]
  have HKS : Hid (KA.size = 16) := by show _ = _; rw [hKA]; simp [hk]
  have HKI : Hid _ := info16 KA HKS.out
  have HTS : Hid (TL.toArray.size = 256) := by show _ = _; rw [hTL]; simp [htl]
  have HTI : Hid _ := info256 TL.toArray HTS.out
  have HT1 : Hid (TL.toArray.all (·.oneCell') = true) := by show _ = _; rw [hTL]; exact B8_onea _
  have HFS : Hid (FL.toArray.size = 176) := by show _ = _; rw [hFL]; simp [hFl]
  have HFI : Hid _ := info176 FL.toArray HFS.out
  have HF1 : Hid (FL.toArray.all (·.oneCell') = true) := by show _ = _; rw [hFL]; exact B8_onea _
  have hiN : (Tryz.prog.info? 87).map (·.size) = some NL.length := by rw [hNL, List.length_map, hn]; kernel_rfl
  have hiT : (Tryz.prog.info? 109).map (·.size) = some TL.length := by rw [hTL, List.length_map, htl]; kernel_rfl
  have hiF : (Tryz.prog.info? 111).map (·.size) = some FL.length := by rw [hFL, List.length_map, hFl]; kernel_rfl
  have huN := Tryz.underlying87
  have huT := Tryz.underlying109
  have huF := Tryz.underlying111
  have hyv := fun W => zero256 W
  obtain ⟨ZT, hZT⟩ : ∃ ZT, ZT = ((List.replicate 256 (0 : UInt8)).map B8).toArray := ⟨_, rfl⟩
  rw [← hZT] at hyv
  have HZT : Hid (ZT.size = TL.toArray.size) := by show _ = _; rw [HTS.out, hZT]; simp
  have hzv := fun W => zero11 W
  obtain ⟨ZF, hZF⟩ : ∃ ZA, ZA = ((List.replicate 176 (0 : UInt8)).map B8).toArray := ⟨_, rfl⟩
  rw [← hZF] at hzv
  have HZF : Hid (ZF.size = FL.toArray.size) := by show _ = _; rw [HFS.out, hZF]; simp
  have hwv := fun W => zero16 W
  obtain ⟨ZA, hZA⟩ : ∃ ZA, ZA = ((List.replicate 16 (0 : UInt8)).map B8).toArray := ⟨_, rfl⟩
  rw [← hZA] at hwv
  have HZS : Hid (ZA.size = 16) := by show _ = _; rw [hZA]; simp
  have HK0 : Hid (((w.alloc (.cells KA 86 (0, 0))).alloc (.cells NL.toArray 87 (0, 0))).heap[w.heap.size]? = some (.cells KA 86 (0, 0))) := alloc2_first _ _ _
  have HN0 : Hid (((w.alloc (.cells KA 86 (0, 0))).alloc (.cells NL.toArray 87 (0, 0))).heap[w.heap.size + 1]? = some (.cells NL.toArray 87 (0, 0))) := heap_at _ _ _ (by simp)
  have HB0 : Hid (Below w.heap.size w ((w.alloc (.cells KA 86 (0, 0))).alloc (.cells NL.toArray 87 (0, 0)))) := ((Below.refl _ _).alloc (Nat.le_refl _) _).alloc (by simp) _
  have h0 : ¬ (n : Int) < 0 := by omega
  have h1 : ¬ (1048576 : Int) < (n : Int) := by omega
  clear hk hn hKA hNL hTL hFL hFl htl hZT hZF hZA
  go_enter Tryz.func72, Tryz.ntmps72
  go_wp2_with fail
  refine (hsu _).mono ?_
  rintro e w1 ⟨rfl, hb1⟩
  have hs1 : w.heap.size + 2 ≤ w1.heap.size := by have := hb1.size; simp at this; omega
  have HB1 : Hid (Below w.heap.size w w1) := HB0.out.trans (hb1.mono (by first | (simp; done) | (simp; omega)))
  have HK1 : Hid (w1.heap[w.heap.size]? = some (.cells KA 86 (0, 0))) := (hb1.block _ (by first | (simp; done) | (simp; omega))).trans HK0.out
  have HN1 : Hid (w1.heap[w.heap.size + 1]? = some (.cells NL.toArray 87 (0, 0))) := (hb1.block _ (by first | (simp; done) | (simp; omega))).trans HN0.out
  clear hb1 HB0 HK0 hsu HN0
  have HQ : Hid ((w1.alloc (.cells ZT 109 (0, 0))).heap[w1.heap.size]? = some (.cells ZT 109 (0, 0))) := heap_at _ _ _ rfl
  have hbq : Below w1.heap.size w1 ((w1.alloc (.cells ZT 109 (0, 0))).setRow w1.heap.size TL.toArray) := below_setRow ((Below.refl _ _).alloc (Nat.le_refl _) _) (Nat.le_refl _) _
  have HK2 : Hid (((w1.alloc (.cells ZT 109 (0, 0))).setRow w1.heap.size TL.toArray).heap[w.heap.size]? = some (.cells KA 86 (0, 0))) := (hbq.block _ (by omega)).trans HK1.out
  have HN2 : Hid (((w1.alloc (.cells ZT 109 (0, 0))).setRow w1.heap.size TL.toArray).heap[w.heap.size + 1]? = some (.cells NL.toArray 87 (0, 0))) := (hbq.block _ (by omega)).trans HN1.out
  have HT2 : Hid (((w1.alloc (.cells ZT 109 (0, 0))).setRow w1.heap.size TL.toArray).heap[w1.heap.size]? = some (.cells TL.toArray 109 (0, 0))) := setRow_heap _ _ _ _ _ _ HQ.out
  have HB2 : Hid (Below w.heap.size w ((w1.alloc (.cells ZT 109 (0, 0))).setRow w1.heap.size TL.toArray)) := HB1.out.trans (hbq.mono (by omega))
  clear hbq
  go_wp2_with (first
    | (refine wpList_store_row rfl 109 _ _ rfl w1.heap.size TL.toArray rfl rfl 109 ZT HQ.out HTI.out HZT.out HT1.out ?_)
    | (refine wpList_load_row rfl 86 _ rfl w.heap.size rfl 86 KA (0, 0) _ HK2.out Tryz.underlying86 rfl HKI.out ?_)
    | (refine wpList_load_row rfl 109 _ rfl w1.heap.size rfl 109 TL.toArray (0, 0) _ HT2.out Tryz.underlying109 rfl HTI.out ?_))
  refine (hex _).mono ?_
  rintro e w3 ⟨rfl, hb3⟩
  have hs3 : w1.heap.size + 1 ≤ w3.heap.size := by have := hb3.size; simp at this; omega
  have HB3 : Hid (Below w.heap.size w w3) := HB2.out.trans (hb3.mono (by simp; omega))
  have HN3 : Hid (w3.heap[w.heap.size + 1]? = some (.cells NL.toArray 87 (0, 0))) := (hb3.block _ (by simp; omega)).trans HN2.out
  have HT3 : Hid (w3.heap[w1.heap.size]? = some (.cells TL.toArray 109 (0, 0))) := (hb3.block _ (by simp)).trans HT2.out
  clear hb3 hex HB2 HK2 HK1 HB1 HQ HN1 HN2 HT2
  have HQ3 : Hid ((w3.alloc (.cells ZF 111 (0, 0))).heap[w3.heap.size]? = some (.cells ZF 111 (0, 0))) := heap_at _ _ _ rfl
  obtain ⟨i0, hi, hz0, hz1, hz2⟩ := info_parts Tryz.infoU8
  have hbq : Below w3.heap.size w3 ((w3.alloc (.cells ZF 111 (0, 0))).setRow w3.heap.size FL.toArray) := below_setRow ((Below.refl _ _).alloc (Nat.le_refl _) _) (Nat.le_refl _) _
  have HB4 : Hid (Below w.heap.size w ((w3.alloc (.cells ZF 111 (0, 0))).setRow w3.heap.size FL.toArray)) := HB3.out.trans (hbq.mono (by omega))
  have HN4 : Hid (((w3.alloc (.cells ZF 111 (0, 0))).setRow w3.heap.size FL.toArray).heap[w.heap.size + 1]? = some (.cells NL.toArray 87 (0, 0))) := (hbq.block _ (by omega)).trans HN3.out
  have HT4 : Hid (((w3.alloc (.cells ZF 111 (0, 0))).setRow w3.heap.size FL.toArray).heap[w1.heap.size]? = some (.cells TL.toArray 109 (0, 0))) := (hbq.block _ (by omega)).trans HT3.out
  have HF4 : Hid (((w3.alloc (.cells ZF 111 (0, 0))).setRow w3.heap.size FL.toArray).heap[w3.heap.size]? = some (.cells FL.toArray 111 (0, 0))) := setRow_heap _ _ _ _ _ _ HQ3.out
  have hs4 : ((w3.alloc (.cells ZF 111 (0, 0))).setRow w3.heap.size FL.toArray).heap.size = w3.heap.size + 1 := by simp
  clear hbq HB3 HN3 HT3
  go_wp2_with (first
    | (refine wpList_store_row rfl 111 _ _ rfl w3.heap.size FL.toArray rfl rfl 111 ZF HQ3.out HFI.out HZF.out HF1.out ?_)
    | (at_make; refine wpList_make_own _ rfl _ _ 64 rfl (w3.heap.size + 1) 5 i0 (.int .u8 0) 1 Tryz.underlying64 hi hz0 hz1 _ _ _ n rfl rfl (by omega) ?b2 ?b3 (by rw [hs4]; omega) ?_))
  case b2 => rw [hz2]; omega
  case b3 => unfold maxLen; omega
  generalize (w3.alloc (.cells ZF 111 (0, 0))).setRow w3.heap.size FL.toArray = w4 at *
  intro w5 hown hgrow
  have hb5 : Below (w3.heap.size + 1) w4 w5 := (Below.refl _ _).grown hgrow (by omega) (fun k h => by cases h)
  have hSW : SW w4 (w3.heap.size + 1) (w.heap.size + 1) w1.heap.size w3.heap.size NL TL FL (.slice (some ⟨w3.heap.size + 1, 0, none⟩) 0 n) ((C 0).take n) w5 := by
    rw [HC0.out, List.take_nil]
    exact ⟨rangeAt_row ((hb5.block _ (by omega)).trans HN4.out), rangeAt_row ((hb5.block _ (by omega)).trans HT4.out), rangeAt_row ((hb5.block _ (by omega)).trans HF4.out), hown, hb5, by have := hb5.size; omega⟩
  have HSW : Hid _ := hSW
  have hBB : w.heap.size ≤ w3.heap.size + 1 := by omega
  clear hown hgrow hb5 hSW HN4 HT4 HF4
  have q1 : IntKind.i64.wrap ((n : Int) + 16) = (n : Int) + 16 := wrap_i64_7 _ (by omega) (by omega)
  have q2 : IntKind.i64.wrap ((n : Int) + 16 - 1) = (n : Int) + 15 := by rw [wrap_i64_7 _ (by omega) (by omega)]; omega
  have q3 : Int.tdiv ((n : Int) + 15) 16 = (((n + 15) / 16 : Nat) : Int) := by rw [Int.tdiv_eq_ediv_of_nonneg (by omega)]; omega
  have q3' : ((n : Int) + 15) / 16 = (((n + 15) / 16 : Nat) : Int) := by omega
  obtain ⟨m, hm⟩ : ∃ m, m = (n + 15) / 16 := ⟨_, rfl⟩
  rw [← hm] at q3 q3' HSA
  have hm1 : 16 * m < n + 16 := by omega
  have hm2 : n ≤ 16 * m := by omega
  clear hm
  go_wp2
  generalize w3.heap.size = g9 at *
  generalize w1.heap.size = g8 at *
  go_loopw [10, 29] (fun v i wr => ∃ k : Nat, k ≤ m ∧ i = .int .i64 k ∧ SW w4 (g9 + 1) (w.heap.size + 1) g8 g9 NL TL FL v ((C k).take n) wr) (fun _ i _ => m - (intOf i).toNat)
  case atStart => exact ⟨0, by omega, rfl, HSW.out⟩
  case round =>
    clear HSW
    obtain ⟨k, hk, rfl, hM⟩ := hrel
    by_cases hlt : k < m
    · have hkI : (k : Int) < (m : Int) := by omega
      have hcs := HCS.out k (by omega)
      have hcl : ((C k).take n).length = 16 * k := by rw [List.length_take, HCL.out]; omega
      have hc1 := hct k (by omega)
      have he1 := hen' k
      have hbl := HBL.out k
      obtain ⟨BA, hBA⟩ : ∃ A, A = ((BB k).map B8).toArray := ⟨_, rfl⟩
      rw [← hBA] at he1
      have HBS : Hid (BA.size = 16) := by show _ = _; rw [hBA]; simp [hbl]
      have HBI : Hid _ := info16 BA HBS.out
      have HB1 : Hid (BA.all (·.oneCell') = true) := by show _ = _; rw [hBA]; exact B8_onea _
      have HBA : Hid _ := hBA
      generalize ctA nonce k = CT at *
      obtain ⟨c, hcm⟩ : ∃ c, c = min 16 (n - 16 * k) := ⟨_, rfl⟩
      rw [← hcm] at hcs
      have hc16 : c ≤ 16 := by omega
      have hnl : 16 * k + c ≤ n := by omega
      have hlen : ∃ p cp, u10 = .slice p (16 * k) cp := by
        obtain ⟨p, cp, h⟩ := hM.2.2.2.1.form'
        rw [hcl] at h
        exact ⟨p, cp, h⟩
      obtain ⟨pu, cu, rfl⟩ := hlen
      obtain ⟨r, hr⟩ : ∃ r, r = n - 16 * k := ⟨_, rfl⟩
      have q5 : IntKind.i64.wrap ((n : Int) - 16 * (k : Int)) = (r : Int) := by rw [wrap_i64_7 _ (by omega) (by omega)]; omega
      have q5' : (n : Int) - 16 * (k : Int) = (r : Int) := by omega
      have q6 : min (16 : Int) (r : Int) = (c : Int) := by omega
      have hr0 : (r : Int) ≤ 1048576 := by omega
      have hst := fun W g => sliceTo16 W g c hc16
      have HCSt : Hid _ := hcs
      have HHL : Hid (wr.drew.rangeAt (w.heap.size + 1) 0 NL) := hM.1
      have HSD : Hid (SW w4 (g9 + 1) (w.heap.size + 1) g8 g9 NL TL FL (.slice pu (16 * k) cu) ((C k).take n) wr.drew) := SW.below hM ((Below.refl _ _).drew)
      have HBLk : Hid _ := hbl
      have HCLk : Hid _ := hcl
      clear hM hBA hcs hcm hcl hbl HHL hr
      go_wp2
      refine wp_region_held_drew (S := SW w4 (g9 + 1) (w.heap.size + 1) g8 g9 NL TL FL (.slice pu (16 * k) cu) ((C k).take n)) (by kernel_rfl) HSD.out (fun hHeld => ?_)
      clear HSD
      generalize wr.drew = W at *
      refine wpAnyH_take (i := 0) (oi := ⟨some 32, .load 111 (.tmp 9), 111, _, #[], none⟩) rfl (by kernel_rfl) (by kernel_rfl) (by kernel_rfl) (fun _ _ _ h => h) (yieldsIf_load_mid (by rfl) 111 (.tmp 9) rfl (g9) (0) rfl (FL) _ (fun _ h => h.2.2.1) huF rfl hiF) hHeld ?_
      try simp only [Act.put, qT, q0, qS]
      refine wpAnyH_take (i := 1) (oi := ⟨some 33, .load 87 (.tmp 4), 87, _, #[], none⟩) rfl (by kernel_rfl) (by kernel_rfl) (by kernel_rfl) (fun _ _ _ h => h) (yieldsIf_load_mid (by rfl) 87 (.tmp 4) rfl (w.heap.size + 1) (0) rfl (NL) _ (fun _ h => h.1) huN rfl hiN) hHeld ?_
      try simp only [Act.put, qT, q0, qS]
      refine wpAnyH_take (i := 2) (oi := ⟨some 34, .move (.tmp 11), 3, _, #[], none⟩) (v := .int .i64 (k : Int)) rfl (by kernel_rfl) (by kernel_rfl) (by kernel_rfl) (fun _ _ _ h => h) (Or.inl ⟨by rfl, fun w' hw' => ?_⟩) hHeld ?_
      · first | (go_simp; done) | (go_simp; rfl)
      try simp only [Act.put, qT, q0, qS]
      refine wpAnyH_take (i := 4) (oi := ⟨some 36, .load 109 (.tmp 8), 109, _, #[], none⟩) rfl (by kernel_rfl) (by kernel_rfl) (by kernel_rfl) (fun _ _ _ h => h) (yieldsIf_load_mid (by rfl) 109 (.tmp 8) rfl (g8) (0) rfl (TL) _ (fun _ h => h.2.1) huT rfl hiT) hHeld ?_
      try simp only [Act.put, qT, q0, qS]
      refine wpAnyH_ready (rs := [3, 6]) (by kernel_rfl) (by simp) ?_
      refine AllReadyH.cons (o := { dst := some 35, op := .call { callee := Go.Callee.value (.func 89), args := #[.tmp 33, .tmp 34], argTypes := #[87, 3] }, type := 86, pos := _, after := #[⟨1, .data⟩, ⟨2, .data⟩], guard := none }) rfl (fun K hK => ?_) (AllReadyH.cons (o := ⟨some 12, .alloc 86, 0, _, #[], none⟩) rfl (fun K hK => ?_) AllReadyH.nil)
      all_goals rw [if_pos (by rfl)]
      · go_wp2_with fail
        refine (hc1 _).mono ?_
        rintro e W3 ⟨rfl, hb⟩
        have hHeld := SW.below hHeld hb
        clear hb
        refine hK.out _ _ hHeld (fun _ => ?_)
        clear hK K
        try simp only [Act.put, qT, q0, qS]
        refine wpAnyH_ready (rs := [5, 6]) (by kernel_rfl) (by simp) ?_
        refine AllReadyH.cons (o := { dst := some 37, op := .call { callee := Go.Callee.value (.func 88), args := #[.tmp 32, .tmp 35, .tmp 36], argTypes := #[111, 86, 109] }, type := 86, pos := _, after := #[⟨0, .data⟩, ⟨3, .data⟩, ⟨4, .data⟩, ⟨3, .chain⟩], guard := none }) rfl (fun K hK => ?_) (AllReadyH.cons (o := ⟨some 12, .alloc 86, 0, _, #[], none⟩) rfl (fun K hK => ?_) AllReadyH.nil)
        all_goals rw [if_pos (by rfl)]
        · go_wp2_with fail
          refine (he1 _).mono ?_
          rintro e W5 ⟨rfl, hb⟩
          have hHeld := SW.below hHeld hb
          clear hb
          refine hK.out _ _ hHeld (fun _ => ?_)
          clear hK K
          try simp only [Act.put, qT, q0, qS]
          refine wpAnyH_ready (rs := [6]) (by kernel_rfl) (by simp) ?_
          refine AllReadyH.cons (o := ⟨some 12, .alloc 86, 0, _, #[], none⟩) rfl (fun K hK => ?_) AllReadyH.nil
          rw [if_pos (by rfl)]
          go_wp2_with fail
          obtain ⟨W6, hW6⟩ : ∃ X, X = W5.alloc (.cells ZA 86 (0, 0)) := ⟨_, rfl⟩
          obtain ⟨g6, hgE6⟩ : ∃ x, x = W5.heap.size := ⟨_, rfl⟩
          have hb : Below (W5).heap.size W5 W6 := by rw [hW6]; exact (Below.refl _ _).alloc (Nat.le_refl _) _
          have HG6 : Hid (W6.heap[g6]? = some (.cells ZA 86 (0, 0))) := by show _ = _; rw [hW6, hgE6]; exact heap_at _ _ _ rfl
          have hg6 : g9 < g6 := by rw [hgE6]; exact hHeld.2.2.2.2.2
          have HGB : Hid (∀ X : World, Below g6 W5 X → SW w4 (g9 + 1) (w.heap.size + 1) g8 g9 NL TL FL (.slice pu (16 * k) cu) ((C k).take n) X) := fun X hX => SW.row hHeld hX hgE6.symm
          have HG0 : Hid (Below g6 W5 W6) := by rw [hgE6]; exact hb
          have hHeld := SW.below hHeld hb
          rw [← hW6, ← hgE6]
          clear hb hW6 hgE6
          have W6c : Hid (∃ X : World, X = W6) := ⟨_, rfl⟩
          obtain ⟨WC, hWC⟩ := W6c.out
          subst hWC
          refine hK.out _ _ hHeld (fun _ => ?_)
          clear hK K
          try simp only [Act.put, qT, q0, qS]
          refine wpAnyH_ready (rs := [7]) (by kernel_rfl) (by simp) ?_
          refine AllReadyH.cons (o := ⟨none, .store 86 (.tmp 12) (.tmp 37), 0, _, #[⟨6, .data⟩, ⟨5, .data⟩, ⟨5, .chain⟩, ⟨0, .phase⟩, ⟨1, .phase⟩, ⟨2, .phase⟩, ⟨3, .phase⟩, ⟨4, .phase⟩, ⟨5, .phase⟩, ⟨6, .phase⟩], none⟩) rfl (fun K hK => ?_) AllReadyH.nil
          rw [if_pos (by rfl)]
          refine wp_store_row 86 _ _ rfl g6 BA rfl rfl 86 _ HG6.out HBI.out (HZS.out.trans HBS.out.symm) HB1.out ?_
          have hHeld := HGB.out _ (below_setRow HG0.out (Nat.le_refl _) BA)
          refine hK.out _ _ hHeld (fun _ => ?_)
          clear hK K
          try simp only [Act.put, qT, q0, qS]
          refine wpAnyH_done (by kernel_rfl) ?_ _
          have hrow := setRow_heap _ _ _ BA _ _ HG6.out
          have HSX : Hid _ := hHeld
          have HNW : Hid (∀ j u, (((BB k).take c).map B8)[j]? = some u → (WC.setRow g6 BA).cell? ((⟨g6, 0, none⟩ : Addr).add j) = some u) := fun j u hu => by
            have e : (⟨g6, 0, none⟩ : Addr).add j = ⟨g6, j, none⟩ := by unfold Addr.add; split <;> simp_all
            rw [e, cell_of_row _ _ j _ _ _ hrow, HBA.out]
            simp only [List.getElem?_toArray]
            rw [List.map_take, List.getElem?_take] at hu
            by_cases hj : j < c
            · rw [if_pos hj] at hu; exact hu
            · rw [if_neg hj] at hu; cases hu
          have hnl2 : (((BB k).take c).map B8).length = c := by rw [List.length_map, List.length_take, HBLk.out]; omega
          have HNL2 : Hid _ := hnl2
          have hs6 := hst (WC.setRow g6 BA) g6
          have hszx := HSX.out.2.2.2.2.2
          clear hHeld hrow HG6 HG0 HGB hst hnl2
          generalize WC.setRow g6 BA = WX at *
          by_cases hr16 : 16 ≤ r
          · have hrI : (16 : Int) ≤ (r : Int) := by omega
            obtain rfl : c = 16 := by omega
            rw [show ((16 : Nat) : Int) = 16 from rfl] at hs6
            clear q6
            go_wp2_with (at_builtin; refine wpList_append_own _ rfl (.tmp 38) (.tmp 44) 64 rfl (g9 + 1) 5 i0 (.int .u8 0) 1 1 Tryz.underlying64 hi hz0 hz1 hz2 rfl (by decide) (.slice pu (16 * k) cu) _ _ rfl (by exact HSX.out.2.2.2.1) ⟨g6, 0, none⟩ 16 16 (((BB k).take 16).map B8) rfl (by rw [HNL2.out, Nat.mul_one]) (by exact HNW.out) (B8_one' _) (by rw [HCLk.out]; unfold maxLen; omega) (by rw [HCLk.out]; omega) hszx ?_; intro v1 w6 hown1 hgr1 hn1)
            have HFIN : Hid (SW w4 (g9 + 1) (w.heap.size + 1) g8 g9 NL TL FL v1 ((C (k + 1)).take n) w6) := by
              obtain ⟨a1, a2, a3, a4, a5, a6⟩ := HSX.out
              have hb6 : Below (g9 + 1) WX w6 := (Below.refl _ _).grown hgr1 a6 (fun j hj => (a4.lt j hj).1)
              refine ⟨fun j u hu => (hb6.cell (by show w.heap.size + 1 < g9 + 1; omega)).trans (a1 j u hu), fun j u hu => (hb6.cell (by show g8 < g9 + 1; omega)).trans (a2 j u hu), fun j u hu => (hb6.cell (by show g9 < g9 + 1; omega)).trans (a3 j u hu), ?_, a5.trans hb6, Nat.le_trans a6 hb6.size⟩
              show w6.ownsRow _ _ _ _ _ _
              rw [HCSt.out, List.length_append, List.length_take (l := BB k), HBLk.out, Nat.min_eq_left hc16, List.map_append]
              exact hown1
            clear hown1 hgr1 hn1 HSX
            go_wp2
            go_roundw
            case rel => exact ⟨k + 1, by omega, by go_num, HFIN.out⟩
            case measure => simp [intOf]; omega
          · have hrI : ¬ (16 : Int) ≤ (r : Int) := by omega
            obtain rfl : c = r := by omega
            clear q6
            go_wp2_with (at_builtin; refine wpList_append_own _ rfl (.tmp 38) (.tmp 44) 64 rfl (g9 + 1) 5 i0 (.int .u8 0) 1 1 Tryz.underlying64 hi hz0 hz1 hz2 rfl (by decide) (.slice pu (16 * k) cu) _ _ rfl (by exact HSX.out.2.2.2.1) ⟨g6, 0, none⟩ c 16 (((BB k).take c).map B8) rfl (by rw [HNL2.out, Nat.mul_one]) (by exact HNW.out) (B8_one' _) (by rw [HCLk.out]; unfold maxLen; omega) (by rw [HCLk.out]; omega) hszx ?_; intro v1 w6 hown1 hgr1 hn1)
            have HFIN : Hid (SW w4 (g9 + 1) (w.heap.size + 1) g8 g9 NL TL FL v1 ((C (k + 1)).take n) w6) := by
              obtain ⟨a1, a2, a3, a4, a5, a6⟩ := HSX.out
              have hb6 : Below (g9 + 1) WX w6 := (Below.refl _ _).grown hgr1 a6 (fun j hj => (a4.lt j hj).1)
              refine ⟨fun j u hu => (hb6.cell (by show w.heap.size + 1 < g9 + 1; omega)).trans (a1 j u hu), fun j u hu => (hb6.cell (by show g8 < g9 + 1; omega)).trans (a2 j u hu), fun j u hu => (hb6.cell (by show g9 < g9 + 1; omega)).trans (a3 j u hu), ?_, a5.trans hb6, Nat.le_trans a6 hb6.size⟩
              show w6.ownsRow _ _ _ _ _ _
              rw [HCSt.out, List.length_append, List.length_take (l := BB k), HBLk.out, Nat.min_eq_left hc16, List.map_append]
              exact hown1
            clear hown1 hgr1 hn1 HSX
            go_wp2
            go_roundw
            case rel => exact ⟨k + 1, by omega, by go_num, HFIN.out⟩
            case measure => simp [intOf]; omega
        · have hk0 := hlt
          go_wp2_with fail
          obtain ⟨W6, hW6⟩ : ∃ X, X = W3.alloc (.cells ZA 86 (0, 0)) := ⟨_, rfl⟩
          obtain ⟨g6, hgE6⟩ : ∃ x, x = W3.heap.size := ⟨_, rfl⟩
          have hb : Below (W3).heap.size W3 W6 := by rw [hW6]; exact (Below.refl _ _).alloc (Nat.le_refl _) _
          have HG6 : Hid (W6.heap[g6]? = some (.cells ZA 86 (0, 0))) := by show _ = _; rw [hW6, hgE6]; exact heap_at _ _ _ rfl
          have hg6 : g9 < g6 := by rw [hgE6]; exact hHeld.2.2.2.2.2
          have HGB : Hid (∀ X : World, Below g6 W3 X → SW w4 (g9 + 1) (w.heap.size + 1) g8 g9 NL TL FL (.slice pu (16 * k) cu) ((C k).take n) X) := fun X hX => SW.row hHeld hX hgE6.symm
          have HG0 : Hid (Below g6 W3 W6) := by rw [hgE6]; exact hb
          have hHeld := SW.below hHeld hb
          rw [← hW6, ← hgE6]
          clear hb hW6 hgE6
          have W6c : Hid (∃ X : World, X = W6) := ⟨_, rfl⟩
          obtain ⟨WC, hWC⟩ := W6c.out
          subst hWC
          refine hK.out _ _ hHeld (fun _ => ?_)
          clear hK K
          try simp only [Act.put, qT, q0, qS]
          refine wpAnyH_ready (rs := [5]) (by kernel_rfl) (by simp) ?_
          refine AllReadyH.cons (o := { dst := some 37, op := .call { callee := Go.Callee.value (.func 88), args := #[.tmp 32, .tmp 35, .tmp 36], argTypes := #[111, 86, 109] }, type := 86, pos := _, after := #[⟨0, .data⟩, ⟨3, .data⟩, ⟨4, .data⟩, ⟨3, .chain⟩], guard := none }) rfl (fun K hK => ?_) AllReadyH.nil
          rw [if_pos (by rfl)]
          go_wp2_with fail
          refine (he1 _).mono ?_
          rintro e W5 ⟨rfl, hb⟩
          have hHeld := SW.below hHeld hb
          have HG6' : Hid (W5.heap[g6]? = some (.cells ZA 86 (0, 0))) := (hb.block _ (row_lt HG6.out)).trans HG6.out
          have HG0' : Hid (Below g6 _ W5) := HG0.out.trans (hb.mono (Nat.le_of_lt (row_lt HG6.out)))
          clear HG6 HG0
          have HG6 : Hid _ := HG6'.out
          have HG0 : Hid _ := HG0'.out
          clear hb HG6' HG0'
          obtain ⟨WC, hWC⟩ : ∃ X : World, X = W5 := ⟨_, rfl⟩
          subst hWC
          refine hK.out _ _ hHeld (fun _ => ?_)
          clear hK K
          try simp only [Act.put, qT, q0, qS]
          refine wpAnyH_ready (rs := [7]) (by kernel_rfl) (by simp) ?_
          refine AllReadyH.cons (o := ⟨none, .store 86 (.tmp 12) (.tmp 37), 0, _, #[⟨6, .data⟩, ⟨5, .data⟩, ⟨5, .chain⟩, ⟨0, .phase⟩, ⟨1, .phase⟩, ⟨2, .phase⟩, ⟨3, .phase⟩, ⟨4, .phase⟩, ⟨5, .phase⟩, ⟨6, .phase⟩], none⟩) rfl (fun K hK => ?_) AllReadyH.nil
          rw [if_pos (by rfl)]
          refine wp_store_row 86 _ _ rfl g6 BA rfl rfl 86 _ HG6.out HBI.out (HZS.out.trans HBS.out.symm) HB1.out ?_
          have hHeld := HGB.out _ (below_setRow HG0.out (Nat.le_refl _) BA)
          refine hK.out _ _ hHeld (fun _ => ?_)
          clear hK K
          try simp only [Act.put, qT, q0, qS]
          refine wpAnyH_done (by kernel_rfl) ?_ _
          have hrow := setRow_heap _ _ _ BA _ _ HG6.out
          have HSX : Hid _ := hHeld
          have HNW : Hid (∀ j u, (((BB k).take c).map B8)[j]? = some u → (WC.setRow g6 BA).cell? ((⟨g6, 0, none⟩ : Addr).add j) = some u) := fun j u hu => by
            have e : (⟨g6, 0, none⟩ : Addr).add j = ⟨g6, j, none⟩ := by unfold Addr.add; split <;> simp_all
            rw [e, cell_of_row _ _ j _ _ _ hrow, HBA.out]
            simp only [List.getElem?_toArray]
            rw [List.map_take, List.getElem?_take] at hu
            by_cases hj : j < c
            · rw [if_pos hj] at hu; exact hu
            · rw [if_neg hj] at hu; cases hu
          have hnl2 : (((BB k).take c).map B8).length = c := by rw [List.length_map, List.length_take, HBLk.out]; omega
          have HNL2 : Hid _ := hnl2
          have hs6 := hst (WC.setRow g6 BA) g6
          have hszx := HSX.out.2.2.2.2.2
          clear hHeld hrow HG6 HG0 HGB hst hnl2
          generalize WC.setRow g6 BA = WX at *
          by_cases hr16 : 16 ≤ r
          · have hrI : (16 : Int) ≤ (r : Int) := by omega
            obtain rfl : c = 16 := by omega
            rw [show ((16 : Nat) : Int) = 16 from rfl] at hs6
            clear q6
            go_wp2_with (at_builtin; refine wpList_append_own _ rfl (.tmp 38) (.tmp 44) 64 rfl (g9 + 1) 5 i0 (.int .u8 0) 1 1 Tryz.underlying64 hi hz0 hz1 hz2 rfl (by decide) (.slice pu (16 * k) cu) _ _ rfl (by exact HSX.out.2.2.2.1) ⟨g6, 0, none⟩ 16 16 (((BB k).take 16).map B8) rfl (by rw [HNL2.out, Nat.mul_one]) (by exact HNW.out) (B8_one' _) (by rw [HCLk.out]; unfold maxLen; omega) (by rw [HCLk.out]; omega) hszx ?_; intro v1 w6 hown1 hgr1 hn1)
            have HFIN : Hid (SW w4 (g9 + 1) (w.heap.size + 1) g8 g9 NL TL FL v1 ((C (k + 1)).take n) w6) := by
              obtain ⟨a1, a2, a3, a4, a5, a6⟩ := HSX.out
              have hb6 : Below (g9 + 1) WX w6 := (Below.refl _ _).grown hgr1 a6 (fun j hj => (a4.lt j hj).1)
              refine ⟨fun j u hu => (hb6.cell (by show w.heap.size + 1 < g9 + 1; omega)).trans (a1 j u hu), fun j u hu => (hb6.cell (by show g8 < g9 + 1; omega)).trans (a2 j u hu), fun j u hu => (hb6.cell (by show g9 < g9 + 1; omega)).trans (a3 j u hu), ?_, a5.trans hb6, Nat.le_trans a6 hb6.size⟩
              show w6.ownsRow _ _ _ _ _ _
              rw [HCSt.out, List.length_append, List.length_take (l := BB k), HBLk.out, Nat.min_eq_left hc16, List.map_append]
              exact hown1
            clear hown1 hgr1 hn1 HSX
            go_wp2
            go_roundw
            case rel => exact ⟨k + 1, by omega, by go_num, HFIN.out⟩
            case measure => simp [intOf]; omega
          · have hrI : ¬ (16 : Int) ≤ (r : Int) := by omega
            obtain rfl : c = r := by omega
            clear q6
            go_wp2_with (at_builtin; refine wpList_append_own _ rfl (.tmp 38) (.tmp 44) 64 rfl (g9 + 1) 5 i0 (.int .u8 0) 1 1 Tryz.underlying64 hi hz0 hz1 hz2 rfl (by decide) (.slice pu (16 * k) cu) _ _ rfl (by exact HSX.out.2.2.2.1) ⟨g6, 0, none⟩ c 16 (((BB k).take c).map B8) rfl (by rw [HNL2.out, Nat.mul_one]) (by exact HNW.out) (B8_one' _) (by rw [HCLk.out]; unfold maxLen; omega) (by rw [HCLk.out]; omega) hszx ?_; intro v1 w6 hown1 hgr1 hn1)
            have HFIN : Hid (SW w4 (g9 + 1) (w.heap.size + 1) g8 g9 NL TL FL v1 ((C (k + 1)).take n) w6) := by
              obtain ⟨a1, a2, a3, a4, a5, a6⟩ := HSX.out
              have hb6 : Below (g9 + 1) WX w6 := (Below.refl _ _).grown hgr1 a6 (fun j hj => (a4.lt j hj).1)
              refine ⟨fun j u hu => (hb6.cell (by show w.heap.size + 1 < g9 + 1; omega)).trans (a1 j u hu), fun j u hu => (hb6.cell (by show g8 < g9 + 1; omega)).trans (a2 j u hu), fun j u hu => (hb6.cell (by show g9 < g9 + 1; omega)).trans (a3 j u hu), ?_, a5.trans hb6, Nat.le_trans a6 hb6.size⟩
              show w6.ownsRow _ _ _ _ _ _
              rw [HCSt.out, List.length_append, List.length_take (l := BB k), HBLk.out, Nat.min_eq_left hc16, List.map_append]
              exact hown1
            clear hown1 hgr1 hn1 HSX
            go_wp2
            go_roundw
            case rel => exact ⟨k + 1, by omega, by go_num, HFIN.out⟩
            case measure => simp [intOf]; omega
      · have hk0 := hlt
        go_wp2_with fail
        obtain ⟨W6, hW6⟩ : ∃ X, X = W.alloc (.cells ZA 86 (0, 0)) := ⟨_, rfl⟩
        obtain ⟨g6, hgE6⟩ : ∃ x, x = W.heap.size := ⟨_, rfl⟩
        have hb : Below (W).heap.size W W6 := by rw [hW6]; exact (Below.refl _ _).alloc (Nat.le_refl _) _
        have HG6 : Hid (W6.heap[g6]? = some (.cells ZA 86 (0, 0))) := by show _ = _; rw [hW6, hgE6]; exact heap_at _ _ _ rfl
        have hg6 : g9 < g6 := by rw [hgE6]; exact hHeld.2.2.2.2.2
        have HGB : Hid (∀ X : World, Below g6 W X → SW w4 (g9 + 1) (w.heap.size + 1) g8 g9 NL TL FL (.slice pu (16 * k) cu) ((C k).take n) X) := fun X hX => SW.row hHeld hX hgE6.symm
        have HG0 : Hid (Below g6 W W6) := by rw [hgE6]; exact hb
        have hHeld := SW.below hHeld hb
        rw [← hW6, ← hgE6]
        clear hb hW6 hgE6
        have W6c : Hid (∃ X : World, X = W6) := ⟨_, rfl⟩
        obtain ⟨WC, hWC⟩ := W6c.out
        subst hWC
        refine hK.out _ _ hHeld (fun _ => ?_)
        clear hK K
        try simp only [Act.put, qT, q0, qS]
        refine wpAnyH_ready (rs := [3]) (by kernel_rfl) (by simp) ?_
        refine AllReadyH.cons (o := { dst := some 35, op := .call { callee := Go.Callee.value (.func 89), args := #[.tmp 33, .tmp 34], argTypes := #[87, 3] }, type := 86, pos := _, after := #[⟨1, .data⟩, ⟨2, .data⟩], guard := none }) rfl (fun K hK => ?_) AllReadyH.nil
        rw [if_pos (by rfl)]
        go_wp2_with fail
        refine (hc1 _).mono ?_
        rintro e W3 ⟨rfl, hb⟩
        have hHeld := SW.below hHeld hb
        have HG6' : Hid (W3.heap[g6]? = some (.cells ZA 86 (0, 0))) := (hb.block _ (row_lt HG6.out)).trans HG6.out
        have HG0' : Hid (Below g6 _ W3) := HG0.out.trans (hb.mono (Nat.le_of_lt (row_lt HG6.out)))
        clear HG6 HG0
        have HG6 : Hid _ := HG6'.out
        have HG0 : Hid _ := HG0'.out
        clear hb HG6' HG0'
        obtain ⟨WC, hWC⟩ : ∃ X : World, X = W3 := ⟨_, rfl⟩
        subst hWC
        refine hK.out _ _ hHeld (fun _ => ?_)
        clear hK K
        try simp only [Act.put, qT, q0, qS]
        refine wpAnyH_ready (rs := [5]) (by kernel_rfl) (by simp) ?_
        refine AllReadyH.cons (o := { dst := some 37, op := .call { callee := Go.Callee.value (.func 88), args := #[.tmp 32, .tmp 35, .tmp 36], argTypes := #[111, 86, 109] }, type := 86, pos := _, after := #[⟨0, .data⟩, ⟨3, .data⟩, ⟨4, .data⟩, ⟨3, .chain⟩], guard := none }) rfl (fun K hK => ?_) AllReadyH.nil
        rw [if_pos (by rfl)]
        go_wp2_with fail
        refine (he1 _).mono ?_
        rintro e W5 ⟨rfl, hb⟩
        have hHeld := SW.below hHeld hb
        have HG6' : Hid (W5.heap[g6]? = some (.cells ZA 86 (0, 0))) := (hb.block _ (row_lt HG6.out)).trans HG6.out
        have HG0' : Hid (Below g6 _ W5) := HG0.out.trans (hb.mono (Nat.le_of_lt (row_lt HG6.out)))
        clear HG6 HG0
        have HG6 : Hid _ := HG6'.out
        have HG0 : Hid _ := HG0'.out
        clear hb HG6' HG0'
        obtain ⟨WC, hWC⟩ : ∃ X : World, X = W5 := ⟨_, rfl⟩
        subst hWC
        refine hK.out _ _ hHeld (fun _ => ?_)
        clear hK K
        try simp only [Act.put, qT, q0, qS]
        refine wpAnyH_ready (rs := [7]) (by kernel_rfl) (by simp) ?_
        refine AllReadyH.cons (o := ⟨none, .store 86 (.tmp 12) (.tmp 37), 0, _, #[⟨6, .data⟩, ⟨5, .data⟩, ⟨5, .chain⟩, ⟨0, .phase⟩, ⟨1, .phase⟩, ⟨2, .phase⟩, ⟨3, .phase⟩, ⟨4, .phase⟩, ⟨5, .phase⟩, ⟨6, .phase⟩], none⟩) rfl (fun K hK => ?_) AllReadyH.nil
        rw [if_pos (by rfl)]
        refine wp_store_row 86 _ _ rfl g6 BA rfl rfl 86 _ HG6.out HBI.out (HZS.out.trans HBS.out.symm) HB1.out ?_
        have hHeld := HGB.out _ (below_setRow HG0.out (Nat.le_refl _) BA)
        refine hK.out _ _ hHeld (fun _ => ?_)
        clear hK K
        try simp only [Act.put, qT, q0, qS]
        refine wpAnyH_done (by kernel_rfl) ?_ _
        have hrow := setRow_heap _ _ _ BA _ _ HG6.out
        have HSX : Hid _ := hHeld
        have HNW : Hid (∀ j u, (((BB k).take c).map B8)[j]? = some u → (WC.setRow g6 BA).cell? ((⟨g6, 0, none⟩ : Addr).add j) = some u) := fun j u hu => by
          have e : (⟨g6, 0, none⟩ : Addr).add j = ⟨g6, j, none⟩ := by unfold Addr.add; split <;> simp_all
          rw [e, cell_of_row _ _ j _ _ _ hrow, HBA.out]
          simp only [List.getElem?_toArray]
          rw [List.map_take, List.getElem?_take] at hu
          by_cases hj : j < c
          · rw [if_pos hj] at hu; exact hu
          · rw [if_neg hj] at hu; cases hu
        have hnl2 : (((BB k).take c).map B8).length = c := by rw [List.length_map, List.length_take, HBLk.out]; omega
        have HNL2 : Hid _ := hnl2
        have hs6 := hst (WC.setRow g6 BA) g6
        have hszx := HSX.out.2.2.2.2.2
        clear hHeld hrow HG6 HG0 HGB hst hnl2
        generalize WC.setRow g6 BA = WX at *
        by_cases hr16 : 16 ≤ r
        · have hrI : (16 : Int) ≤ (r : Int) := by omega
          obtain rfl : c = 16 := by omega
          rw [show ((16 : Nat) : Int) = 16 from rfl] at hs6
          clear q6
          go_wp2_with (at_builtin; refine wpList_append_own _ rfl (.tmp 38) (.tmp 44) 64 rfl (g9 + 1) 5 i0 (.int .u8 0) 1 1 Tryz.underlying64 hi hz0 hz1 hz2 rfl (by decide) (.slice pu (16 * k) cu) _ _ rfl (by exact HSX.out.2.2.2.1) ⟨g6, 0, none⟩ 16 16 (((BB k).take 16).map B8) rfl (by rw [HNL2.out, Nat.mul_one]) (by exact HNW.out) (B8_one' _) (by rw [HCLk.out]; unfold maxLen; omega) (by rw [HCLk.out]; omega) hszx ?_; intro v1 w6 hown1 hgr1 hn1)
          have HFIN : Hid (SW w4 (g9 + 1) (w.heap.size + 1) g8 g9 NL TL FL v1 ((C (k + 1)).take n) w6) := by
            obtain ⟨a1, a2, a3, a4, a5, a6⟩ := HSX.out
            have hb6 : Below (g9 + 1) WX w6 := (Below.refl _ _).grown hgr1 a6 (fun j hj => (a4.lt j hj).1)
            refine ⟨fun j u hu => (hb6.cell (by show w.heap.size + 1 < g9 + 1; omega)).trans (a1 j u hu), fun j u hu => (hb6.cell (by show g8 < g9 + 1; omega)).trans (a2 j u hu), fun j u hu => (hb6.cell (by show g9 < g9 + 1; omega)).trans (a3 j u hu), ?_, a5.trans hb6, Nat.le_trans a6 hb6.size⟩
            show w6.ownsRow _ _ _ _ _ _
            rw [HCSt.out, List.length_append, List.length_take (l := BB k), HBLk.out, Nat.min_eq_left hc16, List.map_append]
            exact hown1
          clear hown1 hgr1 hn1 HSX
          go_wp2
          go_roundw
          case rel => exact ⟨k + 1, by omega, by go_num, HFIN.out⟩
          case measure => simp [intOf]; omega
        · have hrI : ¬ (16 : Int) ≤ (r : Int) := by omega
          obtain rfl : c = r := by omega
          clear q6
          go_wp2_with (at_builtin; refine wpList_append_own _ rfl (.tmp 38) (.tmp 44) 64 rfl (g9 + 1) 5 i0 (.int .u8 0) 1 1 Tryz.underlying64 hi hz0 hz1 hz2 rfl (by decide) (.slice pu (16 * k) cu) _ _ rfl (by exact HSX.out.2.2.2.1) ⟨g6, 0, none⟩ c 16 (((BB k).take c).map B8) rfl (by rw [HNL2.out, Nat.mul_one]) (by exact HNW.out) (B8_one' _) (by rw [HCLk.out]; unfold maxLen; omega) (by rw [HCLk.out]; omega) hszx ?_; intro v1 w6 hown1 hgr1 hn1)
          have HFIN : Hid (SW w4 (g9 + 1) (w.heap.size + 1) g8 g9 NL TL FL v1 ((C (k + 1)).take n) w6) := by
            obtain ⟨a1, a2, a3, a4, a5, a6⟩ := HSX.out
            have hb6 : Below (g9 + 1) WX w6 := (Below.refl _ _).grown hgr1 a6 (fun j hj => (a4.lt j hj).1)
            refine ⟨fun j u hu => (hb6.cell (by show w.heap.size + 1 < g9 + 1; omega)).trans (a1 j u hu), fun j u hu => (hb6.cell (by show g8 < g9 + 1; omega)).trans (a2 j u hu), fun j u hu => (hb6.cell (by show g9 < g9 + 1; omega)).trans (a3 j u hu), ?_, a5.trans hb6, Nat.le_trans a6 hb6.size⟩
            show w6.ownsRow _ _ _ _ _ _
            rw [HCSt.out, List.length_append, List.length_take (l := BB k), HBLk.out, Nat.min_eq_left hc16, List.map_append]
            exact hown1
          clear hown1 hgr1 hn1 HSX
          go_wp2
          go_roundw
          case rel => exact ⟨k + 1, by omega, by go_num, HFIN.out⟩
          case measure => simp [intOf]; omega
    · have hkm : k = m := by omega
      have hkI : ¬ (k : Int) < (m : Int) := by omega
      rw [hkm, ← HSA.out] at hM
      have HFIN : Hid (FB w.heap.size wr u10 R ∧ Below w.heap.size w wr) := ⟨hM.2.2.2.1.lower hBB, HB4.out.trans (hM.2.2.2.2.1.mono hBB)⟩
      clear hM hkm
      go_wp2
      go_ret2
      exact ⟨_, rfl, HFIN.out.1, HFIN.out.2⟩

end Go.Proofs.YtbmmibmfjhehhaaGreat.AE
