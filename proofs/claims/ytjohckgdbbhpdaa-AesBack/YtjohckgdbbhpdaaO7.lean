/- Contract of aes's expand. -/
import Derived.Test.YtjohckgdbbhpdaaM7
import Derived.Test.YtjohckgdbbhpdaaG7
set_option linter.unusedVariables false
set_option linter.unusedSimpArgs false
namespace Go.Proofs.Ytjohckgdbbhpdaa
open Go.RowKit

theorem zero11 (w : World) : (zeroValue 29).run Try.prog w = .ok (.agg ((List.replicate 176 (0 : UInt8)).map B8).toArray) w := by kernel_rfl

theorem list16 (l : List UInt8) (h : l.length = 16) : ∃ a0 a1 a2 a3 a4 a5 a6 a7 a8 a9 a10 a11 a12 a13 a14 a15, l = [a0, a1, a2, a3, a4, a5, a6, a7, a8, a9, a10, a11, a12, a13, a14, a15] := by
  match l, h with
  | [a0, a1, a2, a3, a4, a5, a6, a7, a8, a9, a10, a11, a12, a13, a14, a15], _ => exact ⟨a0, a1, a2, a3, a4, a5, a6, a7, a8, a9, a10, a11, a12, a13, a14, a15, rfl⟩
/-- A key laid over noughts. -/
theorem fold_key (key : List UInt8) (h : key.length = 16) : Array.foldl (fun (cs : Array Value) (x : Value × Nat) => cs.setIfInBounds x.snd x.fst) ((List.replicate 176 (0 : UInt8)).map B8).toArray (key.map B8).toArray.zipIdx 0 16 = ((key ++ List.replicate 160 0).map B8).toArray := by
  obtain ⟨a0, a1, a2, a3, a4, a5, a6, a7, a8, a9, a10, a11, a12, a13, a14, a15, rfl⟩ := list16 key h
  kernel_rfl
theorem bpart_key (key t : List UInt8) (h : key.length = 16) : bpart 176 (exA key t) 16 = key ++ List.replicate 160 0 := by
  have e : (exA key t).take 16 = key := by
    apply List.ext_getElem
    · simp [exA_len key t h, h]
    · intro n h1 h2
      have hn : n < 16 := by omega
      have := exA_key key t n h hn
      have hl : n < (exA key t).length := by rw [exA_len key t h]; omega
      simp only [List.getD, List.getElem?_eq_getElem hl, List.getElem?_eq_getElem h2, Option.getD_some] at this
      rw [List.getElem_take]; exact this
  unfold bpart
  rw [e]
/-- Where expand stands: k bytes are laid. -/
def PX (w : World) (KA TA ZA : Array Value) (F : List UInt8) (k : Nat) (wr : World) : Prop :=
  wr.heap[w.heap.size]? = some (.cells KA 26 (0, 0)) ∧ wr.heap[w.heap.size + 1]? = some (.cells TA 27 (0, 0)) ∧ wr.heap[w.heap.size + 1 + 1]? = some (.cells ZA 29 (0, 0)) ∧ wr.heap[w.heap.size + 1 + 1 + 1]? = some (.cells ((bpart 176 F k).map B8).toArray 29 (0, 0)) ∧ Below w.heap.size w wr ∧ w.heap.size + 4 ≤ wr.heap.size
theorem PX.drew {w : World} {KA TA ZA : Array Value} {F : List UInt8} {k : Nat} {wr : World} (h : PX w KA TA ZA F k wr) : PX w KA TA ZA F k wr.drew := by
  unfold PX at *
  rw [heap_drew]
  exact ⟨h.1, h.2.1, h.2.2.1, h.2.2.2.1, h.2.2.2.2.1.drew, h.2.2.2.2.2⟩
theorem PX.below {w : World} {KA TA ZA : Array Value} {F : List UInt8} {k B : Nat} {a b : World} (h : PX w KA TA ZA F k a) (hb : Below B a b) (hB : w.heap.size + 4 ≤ B) : PX w KA TA ZA F k b := by
  obtain ⟨h1, h2, h3, h4, h5, h6⟩ := h
  exact ⟨(hb.block _ (by omega)).trans h1, (hb.block _ (by omega)).trans h2, (hb.block _ (by omega)).trans h3, (hb.block _ (by omega)).trans h4, h5.trans (hb.mono (by omega)), by have := hb.size; omega⟩
theorem PX.set {w : World} {KA TA ZA : Array Value} {F : List UInt8} {k : Nat} {wr : World} (h : PX w KA TA ZA F k wr) (hF : F.length = 176) (hk : k < 176) :
    PX w KA TA ZA F (k + 1) (wr.setCell ⟨w.heap.size + 1 + 1 + 1, k, none⟩ (B8 (F.getD k 0))) := by
  obtain ⟨h1, h2, h3, h4, h5, h6⟩ := h
  have hb := (Below.refl (w.heap.size + 1 + 1 + 1) wr).setCell (p := ⟨w.heap.size + 1 + 1 + 1, k, none⟩) (Nat.le_refl _) (B8 (F.getD k 0))
  refine ⟨(hb.block _ (by omega)).trans h1, (hb.block _ (by omega)).trans h2, (hb.block _ (by omega)).trans h3, ?_, h5.setCell (p := ⟨w.heap.size + 1 + 1 + 1, k, none⟩) (by show w.heap.size ≤ w.heap.size + 1 + 1 + 1; omega) _, by simpa using h6⟩
  rw [← bpart_set 176 F k hF hk]; exact heap_setCell_same _ (w.heap.size + 1 + 1 + 1) k _ 29 _ h4
theorem PX.cell {w : World} {KA TA ZA : Array Value} {F : List UInt8} {k : Nat} {wr : World} (h : PX w KA TA ZA F k wr) (hF : F.length = 176) (hk : k ≤ 176) (j : Nat) (hj : j < k) :
    wr.cell? ⟨w.heap.size + 1 + 1 + 1, j, none⟩ = some (.int .u8 ((F.getD j 0).toNat : Int)) := by
  rw [cell_of_row _ _ j _ _ _ h.2.2.2.1, row_get _ 176 (bpart_len 176 F k hF hk) _ (by omega), bpart_old 176 F k j hF hk hj]
theorem PX.tab {w : World} {KA ZA : Array Value} {F t : List UInt8} {k : Nat} {wr : World} (h : PX w KA (t.map B8).toArray ZA F k wr) (ht : t.length = 256) (x : UInt8) :
    wr.cell? ⟨w.heap.size + 1, x.toNat, none⟩ = some (.int .u8 ((t.getD x.toNat 0).toNat : Int)) := by
  rw [cell_of_row _ _ x.toNat _ _ _ h.2.1, row_get t 256 ht _ x.toNat_lt]
/-- The word that goes through a key, as it stands at byte i. -/
def wpart (G : Nat → UInt8) (i : Nat) : List UInt8 := (List.range 4).map fun p => G (i + (p + 4 - i % 4) % 4)
theorem wpart_len (G : Nat → UInt8) (i : Nat) : (wpart G i).length = 4 := by unfold wpart; simp
theorem wpart_get (G : Nat → UInt8) (i : Nat) : (wpart G i).getD (i % 4) 0 = G i := by
  unfold wpart
  rw [List.getD, List.getElem?_map, List.getElem?_range (by omega)]
  show G (i + (i % 4 + 4 - i % 4) % 4) = _
  rw [show i + (i % 4 + 4 - i % 4) % 4 = i by omega]
theorem wpart_set (G : Nat → UInt8) (i : Nat) : (wpart G i).set (i % 4) (G (i + 4)) = wpart G (i + 1) := by
  unfold wpart
  apply List.ext_getElem
  · simp
  · intro n h1 h2
    have hn : n < 4 := by simpa using h2
    simp only [List.getElem_set, List.getElem_map, List.getElem_range]
    by_cases h : i % 4 = n
    · rw [if_pos h]; congr 1; omega
    · rw [if_neg h]; congr 1; omega
theorem wpart_zero (G : Nat → UInt8) : wpart G 0 = [G 0, G 1, G 2, G 3] := rfl
/-- What is added to byte i of key r. -/
def gxA (t F : List UInt8) (r i : Nat) : UInt8 := if i < 4 then (exT t F (4 * r)).getD i 0 else F.getD ((r + 1) * 16 + (i - 4)) 0
theorem gxA_step (key t : List UInt8) (r i : Nat) (hk : key.length = 16) (hr : r < 10) (hi : i < 16) : gxA t (exA key t) r i ^^^ (exA key t).getD (r * 16 + i) 0 = (exA key t).getD ((r + 1) * 16 + i) 0 := by
  have h := exA_step key t (4 * r + i / 4) (i % 4) hk (by omega) (by omega)
  rw [show 16 + 4 * (4 * r + i / 4) + i % 4 = (r + 1) * 16 + i by omega, show 4 * (4 * r + i / 4) + i % 4 = r * 16 + i by omega] at h
  revert h
  generalize exA key t = F
  intro h
  rw [h, x8_comm]
  congr 1
  clear h
  unfold gxA
  by_cases h4 : i < 4
  · rw [if_pos h4, show i / 4 = 0 by omega, show i % 4 = i by omega, Nat.add_zero]
  · rw [if_neg h4]
    unfold exT
    rw [if_neg (by omega)]
    have e : (r + 1) * 16 + (i - 4) = 4 * (4 * r + i / 4 + 3) + i % 4 := by omega
    rw [e]
    have hm : i % 4 < 4 := by omega
    generalize i % 4 = m at *
    obtain rfl | rfl | rfl | rfl : m = 0 ∨ m = 1 ∨ m = 2 ∨ m = 3 := by omega
    all_goals rfl
theorem gxA_next (t F : List UInt8) (r i : Nat) : gxA t F r (i + 4) = F.getD ((r + 1) * 16 + i) 0 := by
  unfold gxA
  rw [if_neg (by omega), show i + 4 - 4 = i by omega]
/-- A word, g, besides. -/
def PT (w : World) (KA TA ZA : Array Value) (F : List UInt8) (g : Nat) (m : List UInt8) (k : Nat) (wr : World) : Prop :=
  PX w KA TA ZA F k wr ∧ wr.heap[g]? = some (.cells (m.map B8).toArray 52 (0, 0))
theorem PT.drew {w : World} {KA TA ZA : Array Value} {F : List UInt8} {b : Nat} {m : List UInt8} {k : Nat} {wr : World} (h : PT w KA TA ZA F b m k wr) : PT w KA TA ZA F b m k wr.drew := ⟨h.1.drew, by rw [heap_drew]; exact h.2⟩
theorem PT.set {w : World} {KA TA ZA : Array Value} {F : List UInt8} {b : Nat} {m : List UInt8} {k : Nat} {wr : World} (h : PT w KA TA ZA F b m k wr) (hF : F.length = 176) (hk : k < 176) (hb : w.heap.size + 4 ≤ b) :
    PT w KA TA ZA F b m (k + 1) (wr.setCell ⟨w.heap.size + 1 + 1 + 1, k, none⟩ (B8 (F.getD k 0))) := by
  refine ⟨h.1.set hF hk, ?_⟩
  rw [heap_setCell_other _ _ _ _ (by show b ≠ w.heap.size + 1 + 1 + 1; omega)]; exact h.2
theorem PT.word {w : World} {KA TA ZA : Array Value} {F : List UInt8} {b : Nat} {m : List UInt8} {k : Nat} {wr : World} (h : PT w KA TA ZA F b m k wr) (hb : w.heap.size + 4 ≤ b) (i : Nat) (x : UInt8) :
    PT w KA TA ZA F b (m.set i x) k (wr.setCell ⟨b, i, none⟩ (B8 x)) := by
  refine ⟨h.1.below ((Below.refl b wr).setCell (p := ⟨b, i, none⟩) (Nat.le_refl _) _) hb, ?_⟩
  rw [← row_set]; exact heap_setCell_same _ b i _ 52 _ h.2
theorem sliceKey (w : World) (b o : Nat) : (Instr.sliceAt 26 (.pointer (some ⟨b, o, none⟩)) (some (.int .i64 12)) none none).run Try.prog w = .ok (.slice (some ⟨b, o + 12, none⟩) 4 4) w := by
  have ha : Try.prog.arrayLen 26 = 16 := by kernel_rfl
  have hu : Try.prog.underlying 26 = some (.array (Try.prog.arrayLen 26) (Try.prog.elem 26)) := by kernel_rfl
  have he : Try.prog.elem 26 = 5 := by kernel_rfl
  rw [run_sliceAt_array_l w 26 _ hu .i64 _ (by omega) (by rw [ha]; omega), he, size_u8, ha]
  have hadd : (⟨b, o, none⟩ : Addr).add 12 = ⟨b, o + 12, none⟩ := by unfold Addr.add; split <;> simp_all
  simp [Result.andThen, slicedAt, hadd]

set_option maxHeartbeats 8000000 in
set_option maxRecDepth 100000 in
theorem pexpand_any (key t : List UInt8) (w : World) (hk : key.length = 16) (ht : t.length = 256) :
    Calls Try.prog 35 #[.agg (key.map B8).toArray, .agg (t.map B8).toArray] w fun e w' => e = .returned (.agg ((exA key t).map B8).toArray) ∧ Below w.heap.size w w' := by
  have hyv := fun W => zero11 W
  have hfold := fold_key key hk
  have hbk := bpart_key key t hk
  rw [← hbk] at hfold
  have HGS : Hid (∀ r i, r < 10 → i < 16 → _) := fun r i hr hi => gxA_step key t r i hk hr hi
  have HFL : Hid _ := exA_len key t hk
  generalize exA key t = F at *
  obtain ⟨ZA, hZA⟩ : ∃ ZA, ZA = ((List.replicate 176 (0 : UInt8)).map B8).toArray := ⟨_, rfl⟩
  have hZS : ZA.size = 176 := by rw [hZA]; simp
  rw [← hZA] at hyv hfold
  obtain ⟨KA, hKA⟩ : ∃ KA, KA = (key.map B8).toArray := ⟨_, rfl⟩
  obtain ⟨TA, hTA⟩ : ∃ TA, TA = (t.map B8).toArray := ⟨_, rfl⟩
  have hKS : KA.size = 16 := by rw [hKA]; simp [hk]
  have HKI : Hid _ := info16 KA hKS
  rw [← hKA] at hfold
  rw [← hKA, ← hTA]
  obtain ⟨XA, hXA⟩ : ∃ XA, XA = ((bpart 176 F 16).map B8).toArray := ⟨_, rfl⟩
  rw [← hXA] at hfold
  have hXS : XA.size = 176 := by rw [hXA]; simp [bpart_len 176 F 16 HFL.out (by omega)]
  have HXI : Hid ((Try.prog.info? 29).map (·.size) = some XA.size) := by show _ = _; rw [hXS]; kernel_rfl
  have HX1 : Hid (XA.all (·.oneCell') = true) := by show _ = _; rw [hXA]; exact B8_onea _
  have HZX : Hid (ZA.size = XA.size) := hZS.trans hXS.symm
  have HH : Hid ((((w.alloc (.cells KA 26 (0, 0))).alloc (.cells TA 27 (0, 0))).alloc (.cells ZA 29 (0, 0))).heap[w.heap.size]? = some (.cells KA 26 (0, 0))) := by
    show _ = _
    repeat (first | exact heap_at _ _ _ (by simp) | rw [Below.heap_alloc _ _ _ (by first | (simp; done) | (simp; omega))])
  have HQ : Hid ((((((w.alloc (.cells KA 26 (0, 0))).alloc (.cells TA 27 (0, 0))).alloc (.cells ZA 29 (0, 0))).alloc (.cells ZA 29 (0, 0)))).heap[w.heap.size + 1 + 1 + 1]? = some (.cells ZA 29 (0, 0))) := heap_at _ _ _ (by simp)
  have HPX : Hid (PX w KA TA ZA F 16 (((((w.alloc (.cells KA 26 (0, 0))).alloc (.cells TA 27 (0, 0))).alloc (.cells ZA 29 (0, 0))).alloc (.cells ZA 29 (0, 0))).setRow (w.heap.size + 1 + 1 + 1) XA)) := by
    refine ⟨?_, ?_, ?_, ?_, ?_, by simp⟩
    · rw [setRow_other _ _ _ _ (by omega)]
      show _ = _
      repeat (first | exact heap_at _ _ _ (by simp) | rw [Below.heap_alloc _ _ _ (by first | (simp; done) | (simp; omega))])
    · rw [setRow_other _ _ _ _ (by omega)]
      show _ = _
      repeat (first | exact heap_at _ _ _ (by simp) | rw [Below.heap_alloc _ _ _ (by first | (simp; done) | (simp; omega))])
    · rw [setRow_other _ _ _ _ (by omega), Below.heap_alloc _ _ _ (by simp)]
      exact heap_at _ _ _ (by simp)
    · rw [← hXA]; exact setRow_heap _ _ _ _ _ _ HQ.out
    · exact below_setRow (((((Below.refl _ _).alloc (Nat.le_refl _) _).alloc (by simp) _).alloc (by simp; omega) _).alloc (by simp; omega) _) (by omega) _
  have HTA : Hid _ := hTA
  have HZS : Hid _ := hZS
  have HTL : Hid _ := ht
  clear hKA hTA hZA hbk hXA hk ht
  go_enter Try.func35, Try.ntmps35
  go_wp2_with (first
    | (refine wpList_load_row rfl 26 _ rfl w.heap.size rfl 26 KA (0, 0) _ HH.out Try.underlying26 rfl HKI.out ?_)
    | (refine wpList_store_row rfl 29 _ _ rfl (w.heap.size + 1 + 1 + 1) XA rfl rfl 29 _ HQ.out HXI.out HZX.out HX1.out ?_))
  go_loopw [6, 13] (fun p i wr => ∃ r : Nat, r ≤ 10 ∧ i = .int .i64 r ∧ p = .int .u8 (((pwA r).toNat : Nat) : Int) ∧ PX w KA TA ZA F ((r + 1) * 16) wr) (fun _ i _ => 10 - (intOf i).toNat)
  case atStart => exact ⟨0, by omega, rfl, rfl, HPX.out⟩
  case round =>
    clear HPX HQ HH HZX HX1 HXI hfold hXS hyv
    obtain ⟨r, hr, rfl, rfl, hM⟩ := hrel
    by_cases hlt : r < 10
    · have hrI : (r : Int) < 10 := by omega
      have hrJ : (r : Int) < 11 := by omega
      have hsk := fun W => sliceKey W (w.heap.size + 1 + 1 + 1) (r * 16)
      have HM0 : Hid (PX w KA TA ZA F ((r + 1) * 16) wr) := hM
      have hswr : w.heap.size + 4 ≤ wr.heap.size := hM.2.2.2.2.2
      have HK : Hid (∀ j, j < 4 → ∀ w', PX w KA TA ZA F ((r + 1) * 16) w' → w'.cell? ⟨w.heap.size + 1 + 1 + 1, r * 16 + 12 + j, none⟩ = some (.int .u8 ((F.getD (r * 16 + 12 + j) 0).toNat : Int))) := fun j hj w' h => h.cell HFL.out (by omega) _ (by omega)
      have HT : Hid (∀ x : UInt8, ∀ w', PX w KA TA ZA F ((r + 1) * 16) w' → w'.cell? ⟨w.heap.size + 1, x.toNat, none⟩ = some (.int .u8 ((t.getD x.toNat 0).toNat : Int))) := fun x w' h => by
        rw [HTA.out] at h; exact h.tab HTL.out x
      have hG0 : gxA t F r 0 = t.getD (F.getD (r * 16 + 12 + 1) 0).toNat 0 ^^^ pwA r := by
        unfold gxA exT
        rw [if_pos (by omega), if_pos (by omega), show 4 * (4 * r + 3) = r * 16 + 12 by omega, show 4 * r / 4 = r by omega]
        rfl
      have hG1 : gxA t F r 1 = t.getD (F.getD (r * 16 + 12 + 2) 0).toNat 0 := by
        unfold gxA exT
        rw [if_pos (by omega), if_pos (by omega), show 4 * (4 * r + 3) = r * 16 + 12 by omega]
        rfl
      have hG2 : gxA t F r 2 = t.getD (F.getD (r * 16 + 12 + 3) 0).toNat 0 := by
        unfold gxA exT
        rw [if_pos (by omega), if_pos (by omega), show 4 * (4 * r + 3) = r * 16 + 12 by omega]
        rfl
      have hG3 : gxA t F r 3 = t.getD (F.getD (r * 16 + 12 + 0) 0).toNat 0 := by
        unfold gxA exT
        rw [if_pos (by omega), if_pos (by omega), show 4 * (4 * r + 3) = r * 16 + 12 by omega]
        rfl
      have HK0 : Hid _ := HK.out 0 (by omega)
      have HK1 : Hid _ := HK.out 1 (by omega)
      have HK2 : Hid _ := HK.out 2 (by omega)
      have HK3 : Hid _ := HK.out 3 (by omega)
      have HT0 : Hid _ := HT.out (F.getD (r * 16 + 12 + 0) 0)
      have HT1 : Hid _ := HT.out (F.getD (r * 16 + 12 + 1) 0)
      have HT2 : Hid _ := HT.out (F.getD (r * 16 + 12 + 2) 0)
      have HT3 : Hid _ := HT.out (F.getD (r * 16 + 12 + 3) 0)
      have HGW : Hid (wpart (gxA t F r) 0 = [gxA t F r 0, gxA t F r 1, gxA t F r 2, gxA t F r 3]) := wpart_zero _
      rw [hG0, hG1, hG2, hG3] at HGW
      have HGG : Hid (∀ i, wpart (gxA t F r) i = wpart (gxA t F r) i) := fun _ => rfl
      have HGN : Hid _ := fun i => gxA_next t F r i
      have HGR : Hid _ := fun i (hi : i < 16) => HGS.out r i hlt hi
      have hpw := fun W => ptimes_any (pwA r) 2 W
      rw [← tmA_tmP, show (((2 : UInt8).toNat : Nat) : Int) = 2 from rfl, show tmA (pwA r) 2 = pwA (r + 1) from rfl] at hpw
      generalize gxA t F r = G at *
      obtain ⟨p1, hp1⟩ : ∃ p1, p1 = pwA (r + 1) := ⟨_, rfl⟩
      rw [← hp1] at hpw
      have HP1 : Hid (Value.int .u8 ((p1.toNat : Nat) : Int) = .int .u8 (((pwA (r + 1)).toNat : Nat) : Int)) := by show _ = _; rw [hp1]
      clear hp1
      generalize pwA r = p0 at *
      generalize F.getD (r * 16 + 12 + 0) 0 = x0 at *
      generalize F.getD (r * 16 + 12 + 1) 0 = x1 at *
      generalize F.getD (r * 16 + 12 + 2) 0 = x2 at *
      generalize F.getD (r * 16 + 12 + 3) 0 = x3 at *
      have k0 : (x0.toNat : Int) < 256 := by have := x0.toNat_lt; omega
      have k1 : (x1.toNat : Int) < 256 := by have := x1.toNat_lt; omega
      have k2 : (x2.toNat : Int) < 256 := by have := x2.toNat_lt; omega
      have k3 : (x3.toNat : Int) < 256 := by have := x3.toNat_lt; omega
      generalize t.getD x0.toNat 0 = y0 at *
      generalize t.getD x1.toNat 0 = y1 at *
      generalize t.getD x2.toNat 0 = y2 at *
      generalize t.getD x3.toNat 0 = y3 at *
      have hxp := xor_u8' y1 p0
      generalize y1 ^^^ p0 = z1 at *
      clear hM hG0 hG1 hG2 hG3 HK HT
      go_wp2
      refine wp_region_held_drew (S := PX w KA TA ZA F ((r + 1) * 16)) (by kernel_rfl) HM0.out.drew (fun hHeld => ?_)
      refine wpAnyH_take (i := 0) (oi := { dst := some 19, op := Go.Op.move (Go.Operand.tmp 8), type := 36, pos := _, after := #[], guard := none }) (v := .slice (some ⟨w.heap.size + 1 + 1 + 1, r * 16 + 12, none⟩) 4 4) rfl (by kernel_rfl) (by kernel_rfl) (by kernel_rfl) (fun _ _ _ h => h) (Or.inl ⟨by rfl, fun w' hw' => ?_⟩) hHeld ?_
      · first | (go_simp; done) | (go_simp; rfl)
      try simp only [Act.put, List.setIfInBounds_toArray, List.set_cons_zero, List.set_cons_succ]
      refine wpAnyH_take (i := 1) (oi := { dst := some 20, op := Go.Op.indexAddr 36 (Go.Operand.tmp 19) (Go.Operand.const (Go.Value.int Go.IntKind.i64 1)), type := 0, pos := _, after := #[{ on := 0, ground := Go.Ground.data }], guard := none }) (v := .pointer (some ⟨w.heap.size + 1 + 1 + 1, r * 16 + 12 + 1, none⟩)) rfl (by kernel_rfl) (by kernel_rfl) (by kernel_rfl) (fun _ _ _ h => h) (Or.inl ⟨by rfl, fun w' hw' => ?_⟩) hHeld ?_
      · first | (go_simp; done) | (go_simp; rfl)
      try simp only [Act.put, List.setIfInBounds_toArray, List.set_cons_zero, List.set_cons_succ]
      refine wpAnyH_take (i := 2) (oi := { dst := some 21, op := Go.Op.load 5 (Go.Operand.tmp 20), type := 5, pos := _, after := #[{ on := 1, ground := Go.Ground.data }], guard := none }) (v := .int .u8 (x1.toNat : Int)) rfl (by kernel_rfl) (by kernel_rfl) (by kernel_rfl) (fun _ _ _ h => h) (Or.inl ⟨by rfl, fun w' hw' => ?_⟩) hHeld ?_
      · have hcc := HK1.out w' hw'; first | (go_simp; done) | (go_simp; rfl)
      try simp only [Act.put, List.setIfInBounds_toArray, List.set_cons_zero, List.set_cons_succ]
      refine wpAnyH_take (i := 3) (oi := { dst := some 22, op := Go.Op.indexAddr 27 (Go.Operand.tmp 3) (Go.Operand.tmp 21), type := 0, pos := _, after := #[{ on := 2, ground := Go.Ground.data }], guard := none }) (v := .pointer (some ⟨w.heap.size + 1, x1.toNat, none⟩)) rfl (by kernel_rfl) (by kernel_rfl) (by kernel_rfl) (fun _ _ _ h => h) (Or.inl ⟨by rfl, fun w' hw' => ?_⟩) hHeld ?_
      · first | (go_simp; done) | (go_simp; rfl)
      try simp only [Act.put, List.setIfInBounds_toArray, List.set_cons_zero, List.set_cons_succ]
      refine wpAnyH_take (i := 4) (oi := { dst := some 23, op := Go.Op.load 5 (Go.Operand.tmp 22), type := 5, pos := _, after := #[{ on := 3, ground := Go.Ground.data }], guard := none }) (v := .int .u8 (y1.toNat : Int)) rfl (by kernel_rfl) (by kernel_rfl) (by kernel_rfl) (fun _ _ _ h => h) (Or.inl ⟨by rfl, fun w' hw' => ?_⟩) hHeld ?_
      · have hcc := HT1.out w' hw'; first | (go_simp; done) | (go_simp; rfl)
      try simp only [Act.put, List.setIfInBounds_toArray, List.set_cons_zero, List.set_cons_succ]
      refine wpAnyH_take (i := 5) (oi := { dst := some 24, op := Go.Op.move (Go.Operand.tmp 6), type := 5, pos := _, after := #[], guard := none }) (v := .int .u8 (p0.toNat : Int)) rfl (by kernel_rfl) (by kernel_rfl) (by kernel_rfl) (fun _ _ _ h => h) (Or.inl ⟨by rfl, fun w' hw' => ?_⟩) hHeld ?_
      · first | (go_simp; done) | (go_simp; rfl)
      try simp only [Act.put, List.setIfInBounds_toArray, List.set_cons_zero, List.set_cons_succ]
      refine wpAnyH_take (i := 6) (oi := { dst := some 25, op := Go.Op.binOp Go.BinOp.xor 5 (Go.Operand.tmp 23) (Go.Operand.tmp 24) 5, type := 5, pos := _, after := #[{ on := 4, ground := Go.Ground.data }, { on := 5, ground := Go.Ground.data }], guard := none }) (v := .int .u8 (z1.toNat : Int)) rfl (by kernel_rfl) (by kernel_rfl) (by kernel_rfl) (fun _ _ _ h => h) (Or.inl ⟨by rfl, fun w' hw' => ?_⟩) hHeld ?_
      · first | (go_simp; done) | (go_simp; rfl)
      try simp only [Act.put, List.setIfInBounds_toArray, List.set_cons_zero, List.set_cons_succ]
      refine wpAnyH_take (i := 7) (oi := { dst := some 26, op := Go.Op.move (Go.Operand.tmp 8), type := 36, pos := _, after := #[], guard := none }) (v := .slice (some ⟨w.heap.size + 1 + 1 + 1, r * 16 + 12, none⟩) 4 4) rfl (by kernel_rfl) (by kernel_rfl) (by kernel_rfl) (fun _ _ _ h => h) (Or.inl ⟨by rfl, fun w' hw' => ?_⟩) hHeld ?_
      · first | (go_simp; done) | (go_simp; rfl)
      try simp only [Act.put, List.setIfInBounds_toArray, List.set_cons_zero, List.set_cons_succ]
      refine wpAnyH_take (i := 8) (oi := { dst := some 27, op := Go.Op.indexAddr 36 (Go.Operand.tmp 26) (Go.Operand.const (Go.Value.int Go.IntKind.i64 2)), type := 0, pos := _, after := #[{ on := 7, ground := Go.Ground.data }], guard := none }) (v := .pointer (some ⟨w.heap.size + 1 + 1 + 1, r * 16 + 12 + 2, none⟩)) rfl (by kernel_rfl) (by kernel_rfl) (by kernel_rfl) (fun _ _ _ h => h) (Or.inl ⟨by rfl, fun w' hw' => ?_⟩) hHeld ?_
      · first | (go_simp; done) | (go_simp; rfl)
      try simp only [Act.put, List.setIfInBounds_toArray, List.set_cons_zero, List.set_cons_succ]
      refine wpAnyH_take (i := 9) (oi := { dst := some 28, op := Go.Op.load 5 (Go.Operand.tmp 27), type := 5, pos := _, after := #[{ on := 8, ground := Go.Ground.data }], guard := none }) (v := .int .u8 (x2.toNat : Int)) rfl (by kernel_rfl) (by kernel_rfl) (by kernel_rfl) (fun _ _ _ h => h) (Or.inl ⟨by rfl, fun w' hw' => ?_⟩) hHeld ?_
      · have hcc := HK2.out w' hw'; first | (go_simp; done) | (go_simp; rfl)
      try simp only [Act.put, List.setIfInBounds_toArray, List.set_cons_zero, List.set_cons_succ]
      refine wpAnyH_take (i := 10) (oi := { dst := some 29, op := Go.Op.indexAddr 27 (Go.Operand.tmp 3) (Go.Operand.tmp 28), type := 0, pos := _, after := #[{ on := 9, ground := Go.Ground.data }], guard := none }) (v := .pointer (some ⟨w.heap.size + 1, x2.toNat, none⟩)) rfl (by kernel_rfl) (by kernel_rfl) (by kernel_rfl) (fun _ _ _ h => h) (Or.inl ⟨by rfl, fun w' hw' => ?_⟩) hHeld ?_
      · first | (go_simp; done) | (go_simp; rfl)
      try simp only [Act.put, List.setIfInBounds_toArray, List.set_cons_zero, List.set_cons_succ]
      refine wpAnyH_take (i := 11) (oi := { dst := some 30, op := Go.Op.load 5 (Go.Operand.tmp 29), type := 5, pos := _, after := #[{ on := 10, ground := Go.Ground.data }], guard := none }) (v := .int .u8 (y2.toNat : Int)) rfl (by kernel_rfl) (by kernel_rfl) (by kernel_rfl) (fun _ _ _ h => h) (Or.inl ⟨by rfl, fun w' hw' => ?_⟩) hHeld ?_
      · have hcc := HT2.out w' hw'; first | (go_simp; done) | (go_simp; rfl)
      try simp only [Act.put, List.setIfInBounds_toArray, List.set_cons_zero, List.set_cons_succ]
      refine wpAnyH_take (i := 12) (oi := { dst := some 31, op := Go.Op.move (Go.Operand.tmp 8), type := 36, pos := _, after := #[], guard := none }) (v := .slice (some ⟨w.heap.size + 1 + 1 + 1, r * 16 + 12, none⟩) 4 4) rfl (by kernel_rfl) (by kernel_rfl) (by kernel_rfl) (fun _ _ _ h => h) (Or.inl ⟨by rfl, fun w' hw' => ?_⟩) hHeld ?_
      · first | (go_simp; done) | (go_simp; rfl)
      try simp only [Act.put, List.setIfInBounds_toArray, List.set_cons_zero, List.set_cons_succ]
      refine wpAnyH_take (i := 13) (oi := { dst := some 32, op := Go.Op.indexAddr 36 (Go.Operand.tmp 31) (Go.Operand.const (Go.Value.int Go.IntKind.i64 3)), type := 0, pos := _, after := #[{ on := 12, ground := Go.Ground.data }], guard := none }) (v := .pointer (some ⟨w.heap.size + 1 + 1 + 1, r * 16 + 12 + 3, none⟩)) rfl (by kernel_rfl) (by kernel_rfl) (by kernel_rfl) (fun _ _ _ h => h) (Or.inl ⟨by rfl, fun w' hw' => ?_⟩) hHeld ?_
      · first | (go_simp; done) | (go_simp; rfl)
      try simp only [Act.put, List.setIfInBounds_toArray, List.set_cons_zero, List.set_cons_succ]
      refine wpAnyH_take (i := 14) (oi := { dst := some 33, op := Go.Op.load 5 (Go.Operand.tmp 32), type := 5, pos := _, after := #[{ on := 13, ground := Go.Ground.data }], guard := none }) (v := .int .u8 (x3.toNat : Int)) rfl (by kernel_rfl) (by kernel_rfl) (by kernel_rfl) (fun _ _ _ h => h) (Or.inl ⟨by rfl, fun w' hw' => ?_⟩) hHeld ?_
      · have hcc := HK3.out w' hw'; first | (go_simp; done) | (go_simp; rfl)
      try simp only [Act.put, List.setIfInBounds_toArray, List.set_cons_zero, List.set_cons_succ]
      refine wpAnyH_take (i := 15) (oi := { dst := some 34, op := Go.Op.indexAddr 27 (Go.Operand.tmp 3) (Go.Operand.tmp 33), type := 0, pos := _, after := #[{ on := 14, ground := Go.Ground.data }], guard := none }) (v := .pointer (some ⟨w.heap.size + 1, x3.toNat, none⟩)) rfl (by kernel_rfl) (by kernel_rfl) (by kernel_rfl) (fun _ _ _ h => h) (Or.inl ⟨by rfl, fun w' hw' => ?_⟩) hHeld ?_
      · first | (go_simp; done) | (go_simp; rfl)
      try simp only [Act.put, List.setIfInBounds_toArray, List.set_cons_zero, List.set_cons_succ]
      refine wpAnyH_take (i := 16) (oi := { dst := some 35, op := Go.Op.load 5 (Go.Operand.tmp 34), type := 5, pos := _, after := #[{ on := 15, ground := Go.Ground.data }], guard := none }) (v := .int .u8 (y3.toNat : Int)) rfl (by kernel_rfl) (by kernel_rfl) (by kernel_rfl) (fun _ _ _ h => h) (Or.inl ⟨by rfl, fun w' hw' => ?_⟩) hHeld ?_
      · have hcc := HT3.out w' hw'; first | (go_simp; done) | (go_simp; rfl)
      try simp only [Act.put, List.setIfInBounds_toArray, List.set_cons_zero, List.set_cons_succ]
      refine wpAnyH_take (i := 17) (oi := { dst := some 36, op := Go.Op.move (Go.Operand.tmp 8), type := 36, pos := _, after := #[], guard := none }) (v := .slice (some ⟨w.heap.size + 1 + 1 + 1, r * 16 + 12, none⟩) 4 4) rfl (by kernel_rfl) (by kernel_rfl) (by kernel_rfl) (fun _ _ _ h => h) (Or.inl ⟨by rfl, fun w' hw' => ?_⟩) hHeld ?_
      · first | (go_simp; done) | (go_simp; rfl)
      try simp only [Act.put, List.setIfInBounds_toArray, List.set_cons_zero, List.set_cons_succ]
      refine wpAnyH_take (i := 18) (oi := { dst := some 37, op := Go.Op.indexAddr 36 (Go.Operand.tmp 36) (Go.Operand.const (Go.Value.int Go.IntKind.i64 0)), type := 0, pos := _, after := #[{ on := 17, ground := Go.Ground.data }], guard := none }) (v := .pointer (some ⟨w.heap.size + 1 + 1 + 1, r * 16 + 12 + 0, none⟩)) rfl (by kernel_rfl) (by kernel_rfl) (by kernel_rfl) (fun _ _ _ h => h) (Or.inl ⟨by rfl, fun w' hw' => ?_⟩) hHeld ?_
      · first | (go_simp; done) | (go_simp; rfl)
      try simp only [Act.put, List.setIfInBounds_toArray, List.set_cons_zero, List.set_cons_succ]
      refine wpAnyH_take (i := 19) (oi := { dst := some 38, op := Go.Op.load 5 (Go.Operand.tmp 37), type := 5, pos := _, after := #[{ on := 18, ground := Go.Ground.data }], guard := none }) (v := .int .u8 (x0.toNat : Int)) rfl (by kernel_rfl) (by kernel_rfl) (by kernel_rfl) (fun _ _ _ h => h) (Or.inl ⟨by rfl, fun w' hw' => ?_⟩) hHeld ?_
      · have hcc := HK0.out w' hw'; first | (go_simp; done) | (go_simp; rfl)
      try simp only [Act.put, List.setIfInBounds_toArray, List.set_cons_zero, List.set_cons_succ]
      refine wpAnyH_take (i := 20) (oi := { dst := some 39, op := Go.Op.indexAddr 27 (Go.Operand.tmp 3) (Go.Operand.tmp 38), type := 0, pos := _, after := #[{ on := 19, ground := Go.Ground.data }], guard := none }) (v := .pointer (some ⟨w.heap.size + 1, x0.toNat, none⟩)) rfl (by kernel_rfl) (by kernel_rfl) (by kernel_rfl) (fun _ _ _ h => h) (Or.inl ⟨by rfl, fun w' hw' => ?_⟩) hHeld ?_
      · first | (go_simp; done) | (go_simp; rfl)
      try simp only [Act.put, List.setIfInBounds_toArray, List.set_cons_zero, List.set_cons_succ]
      refine wpAnyH_take (i := 21) (oi := { dst := some 40, op := Go.Op.load 5 (Go.Operand.tmp 39), type := 5, pos := _, after := #[{ on := 20, ground := Go.Ground.data }], guard := none }) (v := .int .u8 (y0.toNat : Int)) rfl (by kernel_rfl) (by kernel_rfl) (by kernel_rfl) (fun _ _ _ h => h) (Or.inl ⟨by rfl, fun w' hw' => ?_⟩) hHeld ?_
      · have hcc := HT0.out w' hw'; first | (go_simp; done) | (go_simp; rfl)
      try simp only [Act.put, List.setIfInBounds_toArray, List.set_cons_zero, List.set_cons_succ]
      refine wpAnyH_take (i := 22) (oi := { dst := some 41, op := Go.Op.build 52 #[(0, Go.Operand.tmp 25), (1, Go.Operand.tmp 30), (2, Go.Operand.tmp 35), (3, Go.Operand.tmp 40)], type := 52, pos := _, after := #[{ on := 6, ground := Go.Ground.data }, { on := 11, ground := Go.Ground.data }, { on := 16, ground := Go.Ground.data }, { on := 21, ground := Go.Ground.data }], guard := none }) (v := .agg #[.int .u8 (z1.toNat : Int), .int .u8 (y2.toNat : Int), .int .u8 (y3.toNat : Int), .int .u8 (y0.toNat : Int)]) rfl (by kernel_rfl) (by kernel_rfl) (by kernel_rfl) (fun _ _ _ h => h) (Or.inl ⟨by rfl, fun w' hw' => ?_⟩) hHeld ?_
      · first | (go_simp; done) | (go_simp; rfl)
      try simp only [Act.put, List.setIfInBounds_toArray, List.set_cons_zero, List.set_cons_succ]
      refine wpAnyH_ready (rs := [23]) (by kernel_rfl) (by simp) ?_
      refine AllReadyH.cons (o := { dst := some 9, op := Go.Op.alloc 52, type := 0, pos := _, after := #[], guard := none }) rfl (fun K hK => ?_) AllReadyH.nil
      rw [if_pos (by rfl)]
      go_wp2_with fail
      have hHeld2 := (HM0.out.below ((Below.refl wr.heap.size wr).alloc (Nat.le_refl _) (.cells #[.int .u8 0, .int .u8 0, .int .u8 0, .int .u8 0] 52 (0, 0))) hswr).drew
      refine hK.out _ _ hHeld2 (fun _ => ?_)
      clear hK K
      try simp only [Act.put, List.setIfInBounds_toArray, List.set_cons_zero, List.set_cons_succ]
      refine wpAnyH_ready (rs := [24]) (by kernel_rfl) (by simp) ?_
      refine AllReadyH.cons (o := { dst := none, op := Go.Op.store 52 (Go.Operand.tmp 9) (Go.Operand.tmp 41), type := 0, pos := _, after := #[{ on := 23, ground := Go.Ground.data }, { on := 22, ground := Go.Ground.data }, { on := 0, ground := Go.Ground.phase }, { on := 1, ground := Go.Ground.phase }, { on := 2, ground := Go.Ground.phase }, { on := 3, ground := Go.Ground.phase }, { on := 4, ground := Go.Ground.phase }, { on := 5, ground := Go.Ground.phase }, { on := 6, ground := Go.Ground.phase }, { on := 7, ground := Go.Ground.phase }, { on := 8, ground := Go.Ground.phase }, { on := 9, ground := Go.Ground.phase }, { on := 10, ground := Go.Ground.phase }, { on := 11, ground := Go.Ground.phase }, { on := 12, ground := Go.Ground.phase }, { on := 13, ground := Go.Ground.phase }, { on := 14, ground := Go.Ground.phase }, { on := 15, ground := Go.Ground.phase }, { on := 16, ground := Go.Ground.phase }, { on := 17, ground := Go.Ground.phase }, { on := 18, ground := Go.Ground.phase }, { on := 19, ground := Go.Ground.phase }, { on := 20, ground := Go.Ground.phase }, { on := 21, ground := Go.Ground.phase }, { on := 22, ground := Go.Ground.phase }, { on := 23, ground := Go.Ground.phase }], guard := none }) rfl (fun K hK => ?_) AllReadyH.nil
      rw [if_pos (by rfl)]
      obtain ⟨MA, hMA⟩ : ∃ MA : Array Value, MA = #[.int .u8 (z1.toNat : Int), .int .u8 (y2.toNat : Int), .int .u8 (y3.toNat : Int), .int .u8 (y0.toNat : Int)] := ⟨_, rfl⟩
      have hMW : MA = ((wpart G 0).map B8).toArray := by rw [HGW.out, hMA]; rfl
      rw [← hMA]
      have hQ : (wr.alloc (.cells #[.int .u8 0, .int .u8 0, .int .u8 0, .int .u8 0] 52 (0, 0))).drew.heap[wr.heap.size]? = some (.cells #[.int .u8 0, .int .u8 0, .int .u8 0, .int .u8 0] 52 (0, 0)) := by rw [heap_drew]; exact heap_at _ _ _ rfl
      refine wp_store_row 52 _ _ rfl wr.heap.size MA rfl rfl 52 _ hQ (by rw [hMA]; kernel_rfl) (by rw [hMA]; rfl) (by rw [hMW]; exact B8_onea _) ?_
      have hHeld3 := hHeld2.below (below_setRow (Below.refl wr.heap.size _) (Nat.le_refl _) MA) hswr
      refine hK.out _ _ hHeld3 (fun _ => ?_)
      clear hK K
      try simp only [Act.put, List.setIfInBounds_toArray, List.set_cons_zero, List.set_cons_succ]
      refine wpAnyH_done (by kernel_rfl) ?_ _
      have HPT : Hid (PT w KA TA ZA F wr.heap.size (wpart G 0) ((r + 1) * 16 + 0) ((wr.alloc (.cells #[.int .u8 0, .int .u8 0, .int .u8 0, .int .u8 0] 52 (0, 0))).drew.setRow wr.heap.size MA)) := ⟨hHeld3, by rw [← hMW]; exact setRow_heap _ _ _ _ _ _ hQ⟩
      clear hHeld hHeld2 hHeld3 hQ hMW hMA HM0 HK0 HK1 HK2 HK3 HT0 HT1 HT2 HT3 HGG hsk k0 k1 k2 k3
      generalize (wr.alloc (.cells #[.int .u8 0, .int .u8 0, .int .u8 0, .int .u8 0] 52 (0, 0))).drew.setRow wr.heap.size MA = W at *
      generalize wr.heap.size = g at *
      go_wp2
      go_loopw [42] (fun i wr => ∃ k : Nat, k ≤ 16 ∧ i = .int .i64 k ∧ PT w KA TA ZA F g (wpart G k) ((r + 1) * 16 + k) wr) (fun i _ => 16 - (intOf i).toNat)
      case atStart => exact ⟨0, by omega, rfl, HPT.out⟩
      case round =>
        clear HPT
        obtain ⟨k, hk, rfl, hM⟩ := hrel
        by_cases hlk : k < 16
        · have hkI : (k : Int) < 16 := by omega
          have hkr := HGR.out k hlk
          have h1 := (hM.word hswr (k % 4) (F.getD ((r + 1) * 16 + k) 0)).drew
          rw [← HGN.out k, wpart_set, HGN.out k] at h1
          have H1 : Hid (PT w KA TA ZA F g (wpart G (k + 1)) ((r + 1) * 16 + k) (wr.setCell ⟨g, k % 4, none⟩ (.int .u8 ((F.getD ((r + 1) * 16 + k) 0).toNat : Int))).drew) := h1
          have g1 := cell_of_row _ _ (k % 4) _ _ _ hM.2
          rw [row_get _ 4 (wpart_len G k) _ (by omega), wpart_get] at g1
          have g2 := frozen_of_row _ _ (k % 4) _ _ hM.2
          have g3 := hM.1.cell HFL.out (by omega) (r * 16 + k) (by omega)
          have HWG : Hid ((wpart G (k + 1)).getD (k % 4) 0 = F.getD ((r + 1) * 16 + k) 0) := by
            show _ = _
            rw [← wpart_set, List.getD, List.getElem?_set_self (by rw [wpart_len]; omega), HGN.out]; rfl
          have hxy := xor_u8' (G k) (F.getD (r * 16 + k) 0)
          rw [hkr] at hxy
          have q2 : Int.tmod (k : Int) 4 = ((k % 4 : Nat) : Int) := by rw [Int.tmod_eq_emod_of_nonneg (by omega)]; omega
          have q3 : (k : Int) % 4 = ((k % 4 : Nat) : Int) := by omega
          have l3 : ((k % 4 : Nat) : Int) < 4 := by omega
          have hm4 : k % 4 < 4 := by omega
          have q1 : IntKind.i64.wrap ((r : Int) + 1) = (r : Int) + 1 := wrap_i64_7 _ (by omega) (by omega)
          have l1 : (r : Int) + 1 < 11 := by omega
          obtain ⟨z, hz⟩ : ∃ z, z = F.getD ((r + 1) * 16 + k) 0 := ⟨_, rfl⟩
          have HSET : Hid (∀ W2, PT w KA TA ZA F g (wpart G (k + 1)) ((r + 1) * 16 + k) W2 → PT w KA TA ZA F g (wpart G (k + 1)) ((r + 1) * 16 + (k + 1)) (W2.setCell ⟨w.heap.size + 1 + 1 + 1, (r + 1) * 16 + k, none⟩ (.int .u8 (z.toNat : Int)))) := fun W2 h => by
            rw [hz]; exact h.set HFL.out (by omega) hswr
          rw [← hz] at H1 HWG hxy
          clear hM h1 hkr hz
          generalize k % 4 = m at *
          generalize F.getD (r * 16 + k) 0 = x at *
          generalize G k = y at *
          go_wp2
          go_region
          all_goals
            generalize (wr.setCell ⟨g, m, none⟩ (.int .u8 (z.toNat : Int))).drew = W2 at *
            have HS : Hid _ := (HSET.out W2 H1.out).drew
            obtain ⟨u, hu⟩ := bpart_cell' 176 F ((r + 1) * 16 + k) HFL.out (by omega)
            have g4 := cell_of_row _ _ ((r + 1) * 16 + k) _ _ _ H1.out.1.2.2.2.1
            rw [hu] at g4
            have g5 := frozen_of_row _ _ ((r + 1) * 16 + k) _ _ H1.out.1.2.2.2.1
            have g6 := cell_of_row _ _ m _ _ _ H1.out.2
            rw [row_get _ 4 (wpart_len G (k + 1)) _ hm4, HWG.out] at g6
            clear g1 g2 g3 hu
            go_wp2
            go_region
            all_goals
              go_wp2
              go_roundw
              case rel => exact ⟨k + 1, by omega, by go_num, HS.out⟩
              case measure => simp [intOf]; omega
        · have hk16 : k = 16 := by omega
          have hkI : ¬ (k : Int) < 16 := by omega
          have HM1 : Hid (PX w KA TA ZA F ((r + 1 + 1) * 16) wr) := by
            show PX _ _ _ _ _ _ _
            have := hM.1
            rw [hk16] at this
            rw [show (r + 1 + 1) * 16 = (r + 1) * 16 + 16 by omega]
            exact this
          clear hM hk16
          go_wp2_with fail
          refine (hpw _).mono ?_
          rintro e wx ⟨rfl, rfl⟩
          clear hpw
          go_wp2
          go_roundw
          case rel => exact ⟨r + 1, by omega, by go_num, HP1.out, HM1.out⟩
          case measure => simp [intOf]; omega
    · have hk' : r = 10 := by omega
      have hlt' : ¬ (r : Int) < 10 := by omega
      rw [hk'] at hM
      obtain ⟨h1, h2, h3, h4, h5, h6⟩ := hM
      rw [show (10 + 1) * 16 = 176 from rfl, bpart_all 176 F HFL.out] at h4
      obtain ⟨RS, hRS⟩ : ∃ RS, RS = (F.map B8).toArray := ⟨_, rfl⟩
      have hr8 : RS.size = 176 := by rw [hRS]; simp [HFL.out]
      have HRI : Hid ((Try.prog.info? 29).map (·.size) = some RS.size) := by show _ = _; rw [hr8]; kernel_rfl
      have HR1 : Hid (RS.all (·.oneCell') = true) := by show _ = _; rw [hRS]; exact B8_onea _
      rw [← hRS] at h4
      have HT' : Hid _ := h4
      have HR : Hid _ := h3
      have HR8 : Hid (ZA.size = RS.size) := HZS.out.trans hr8.symm
      have HRS : Hid _ := hRS
      clear h1 h2 h3 h4 hr8 hRS hk'
      go_wp2_with (first
        | (refine wpList_load_row rfl 29 _ rfl (w.heap.size + 1 + 1 + 1) rfl 29 _ (0, 0) _ HT'.out Try.underlying29 rfl HRI.out ?_)
        | (refine wpList_store_row rfl 29 _ _ rfl (w.heap.size + 1 + 1) _ rfl rfl 29 _ HR.out HRI.out HR8.out HR1.out ?_))
      refine bodyPost_ret (v := .agg RS) ?_ rfl ⟨by rw [HRS.out], below_setRow h5 (by omega) _⟩
      exact results_cell_row Try.results35 _ _ (w.heap.size + 1 + 1) 29 _ (0, 0) _ rfl (setRow_heap _ _ _ _ _ _ HR.out) Try.underlying29 rfl HRI.out

end Go.Proofs.Ytjohckgdbbhpdaa
