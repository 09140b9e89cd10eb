/- Contracts of aes's xored, replaced, rotated. -/
import Derived.Test.YtjohckgdbbhpdaaJ7
set_option linter.unusedVariables false
set_option linter.unusedSimpArgs false
namespace Go.Proofs.Ytjohckgdbbhpdaa
open Go.RowKit

/-- A row s of which the first k cells are T's. -/
def spart (T s : List UInt8) (k : Nat) : List UInt8 := T.take k ++ s.drop k
theorem spart_len (T s : List UInt8) (n k : Nat) (hT : T.length = n) (hs : s.length = n) (hk : k ≤ n) : (spart T s k).length = n := by unfold spart; simp [hT, hs]; omega
theorem spart_zero (T s : List UInt8) : spart T s 0 = s := by unfold spart; simp
theorem spart_all (T s : List UInt8) (n : Nat) (hT : T.length = n) (hs : s.length = n) : spart T s n = T := by
  unfold spart
  rw [List.take_of_length_le (by omega), List.drop_of_length_le (by omega), List.append_nil]
theorem spart_get (T s : List UInt8) (n k : Nat) (hT : T.length = n) (hs : s.length = n) (hk : k < n) : (spart T s k).getD k 0 = s.getD k 0 := by
  unfold spart
  have hl : (T.take k).length = k := by simp; omega
  rw [List.getD, List.getElem?_append_right (by omega), hl, Nat.sub_self, List.getElem?_drop, Nat.add_zero, List.getD]
theorem spart_set (T s : List UInt8) (n k : Nat) (hT : T.length = n) (hs : s.length = n) (hk : k < n) : (spart T s k).set k (T.getD k 0) = spart T s (k + 1) := by
  have hk' : k < T.length := by omega
  have ha' : k < s.length := by omega
  unfold spart
  rw [List.set_append_right _ _ (by simp; omega), List.take_succ_eq_append_getElem hk', List.drop_eq_getElem_cons ha']
  rw [show T.getD k 0 = T[k] from by simp [List.getD, List.getElem?_eq_getElem hk']]
  simp only [List.length_take, Nat.min_eq_left (show k ≤ T.length by omega), Nat.sub_self, List.set_cons_zero, List.append_assoc, List.singleton_append]
theorem bpart_set' (n : Nat) (T : List UInt8) (k : Nat) (hT : T.length = n) (h : k < n) : (bpart n T k).set k (T.getD k 0) = bpart n T (k + 1) := by
  have hk : k < T.length := by omega
  unfold bpart
  rw [List.set_append_right _ _ (by simp; omega), List.take_succ_eq_append_getElem hk]
  simp only [List.length_take, Nat.min_eq_left (show k ≤ T.length by omega), Nat.sub_self]
  rw [show n - k = (n - (k + 1)) + 1 by omega, List.replicate_succ, List.set_cons_zero]
  rw [show T.getD k 0 = T[k] from by simp [List.getD, List.getElem?_eq_getElem hk]]
  simp only [List.append_assoc, List.singleton_append]
/-- Three blocks of which the first is under way. -/
def F3 (w : World) (t : TypeId) (l : List UInt8) (o1 o2 : Obj) (wr : World) : Prop :=
  wr.heap[w.heap.size]? = some (.cells (l.map B8).toArray t (0, 0)) ∧ wr.heap[w.heap.size + 1]? = some o1 ∧ wr.heap[w.heap.size + 1 + 1]? = some o2 ∧ Below w.heap.size w wr
theorem F3.set {w : World} {o1 o2 : Obj} {t : TypeId} {l : List UInt8} {wr : World} (h : F3 w t l o1 o2 wr) (i : Nat) (x : UInt8) : F3 w t (l.set i x) o1 o2 (wr.setCell ⟨w.heap.size, i, none⟩ (B8 x)) := by
  obtain ⟨h1, h2, h3, h4⟩ := h
  refine ⟨?_, ?_, ?_, h4.setCell (p := ⟨w.heap.size, i, none⟩) (Nat.le_refl _) _⟩
  · rw [← row_set]; exact heap_setCell_same _ w.heap.size i _ t _ h1
  · rw [heap_setCell_other _ _ _ _ (by show w.heap.size + 1 ≠ w.heap.size; omega)]; exact h2
  · rw [heap_setCell_other _ _ _ _ (by show w.heap.size + 1 + 1 ≠ w.heap.size; omega)]; exact h3
theorem F3.start {w : World} (t : TypeId) (l : List UInt8) (o1 o2 : Obj) (A : Array Value) (hA : A = (l.map B8).toArray) : F3 w t l o1 o2 (((w.alloc (.cells A t (0, 0))).alloc o1).alloc o2) := by
  subst hA
  refine ⟨?_, ?_, heap_at _ _ _ (by simp), (((Below.refl _ _).alloc (Nat.le_refl _) _).alloc (by simp) _).alloc (by simp; omega) _⟩
  · rw [Below.heap_alloc _ _ _ (by simp; omega), Below.heap_alloc _ _ _ (by simp)]; exact heap_at _ _ _ rfl
  · rw [Below.heap_alloc _ _ _ (by simp)]; exact heap_at _ _ _ (by simp)
/-- A block of sixteen noughts. -/
def Z16 : Array Value := Array.replicate 16 (.int .u8 0)
theorem Z16_size : Z16.size = 16 := by unfold Z16; simp
theorem info16 (RS : Array Value) (h : RS.size = 16) : (Try.prog.info? 26).map (·.size) = some RS.size := by rw [h]; kernel_rfl


theorem xrA_get (a b : List UInt8) (n k : Nat) (ha : a.length = n) (hb : b.length = n) (hk : k < n) : (xrA a b).getD k 0 = a.getD k 0 ^^^ b.getD k 0 := by
  have hx := xrA_len a b n ha hb
  have hk' : k < (xrA a b).length := by omega
  have ha' : k < a.length := by omega
  have hb' : k < b.length := by omega
  have e1 : (xrA a b)[k] = a[k] ^^^ b[k] := by unfold xrA; exact List.getElem_zipWith ..
  simp [List.getD, List.getElem?_eq_getElem ha', List.getElem?_eq_getElem hb', List.getElem?_eq_getElem hk', e1]

set_option maxHeartbeats 4000000 in
set_option maxRecDepth 100000 in
theorem pxored_any (a b : List UInt8) (w : World) (ha : a.length = 16) (hb : b.length = 16) :
    Calls Try.prog 40 #[.agg (a.map B8).toArray, .agg (b.map B8).toArray] w fun e w' => e = .returned (.agg ((xrA a b).map B8).toArray) ∧ Below w.heap.size w w' := by
  have hx := xrA_len a b 16 ha hb
  have HLN : Hid _ := hx
  have HPS : Hid (∀ k, k < 16 → (spart (xrA a b) a k).set k (a.getD k 0 ^^^ b.getD k 0) = spart (xrA a b) a (k + 1)) := fun k hk => by
    have := spart_set (xrA a b) a 16 k hx ha hk
    rw [xrA_get a b 16 k ha hb hk] at this
    exact this
  have HPG : Hid (∀ k, k < 16 → ((spart (xrA a b) a k).map B8).toArray[k]? = some (.int .u8 ((a.getD k 0).toNat : Int))) := fun k hk => by
    rw [row_get _ 16 (spart_len _ _ 16 k hx ha (by omega)) k hk, spart_get _ _ 16 k hx ha hk]
  have HPA : Hid (spart (xrA a b) a 16 = xrA a b) := spart_all _ _ 16 hx ha
  have HBG : Hid _ := row_get b 16 hb
  have HP0 : Hid (spart (xrA a b) a 0 = a) := spart_zero _ _
  obtain ⟨AA, hAA⟩ : ∃ AA, AA = (a.map B8).toArray := ⟨_, rfl⟩
  obtain ⟨BA, hBA⟩ : ∃ BA, BA = (b.map B8).toArray := ⟨_, rfl⟩
  obtain ⟨ZA, hZA⟩ : ∃ ZA : Array Value, ZA = Array.replicate 16 (.int .u8 0) := ⟨_, rfl⟩
  have HZS : Hid (ZA.size = 16) := by show _ = _; rw [hZA]; simp
  have hBS : BA.size = 16 := by rw [hBA]; simp [hb]
  rw [← hAA, ← hBA]
  have HBI : Hid _ := info16 BA hBS
  have HBS : Hid _ := hBS
  have HBA : Hid _ := hBA
  have HST : Hid (F3 w 26 (spart (xrA a b) a 0) (.cells BA 26 (0, 0)) (.cells (Array.replicate 16 (.int .u8 0)) 26 (0, 0)) (((w.alloc (.cells AA 26 (0, 0))).alloc (.cells BA 26 (0, 0))).alloc (.cells (Array.replicate 16 (.int .u8 0)) 26 (0, 0)))) := F3.start _ _ _ _ _ (by rw [HP0.out, hAA])
  clear ha hb hAA hBA hBS hx
  go_enter Try.func40, Try.ntmps40
  go_wp2_with (first
    | (refine wpList_load_row rfl 26 _ rfl (w.heap.size + 1) rfl 26 BA (0, 0) _ HST.out.2.1 Try.underlying26 rfl HBI.out ?_))
  go_loopw [8] (fun i wr => ∃ k : Nat, k ≤ 16 ∧ i = .int .i64 k ∧ F3 w 26 (spart (xrA a b) a k) (.cells BA 26 (0, 0)) (.cells ZA 26 (0, 0)) wr) (fun i _ => 16 - (intOf i).toNat)
  case atStart => exact ⟨0, by omega, rfl, by rw [hZA]; exact HST.out⟩
  case round =>
    clear HST hZA
    obtain ⟨k, hk, rfl, hM⟩ := hrel
    by_cases hlt : k < 16
    · have hkI : (k : Int) < 16 := by omega
      have HS : Hid (F3 w 26 (spart (xrA a b) a (k + 1)) (.cells BA 26 (0, 0)) (.cells ZA 26 (0, 0)) (wr.setCell ⟨w.heap.size, k, none⟩ (.int .u8 (((a.getD k 0 ^^^ b.getD k 0).toNat : Nat) : Int)))) := by
        show F3 _ _ _ _ _ _
        rw [← HPS.out k hlt]; exact hM.set _ _
      have g1 := cell_of_row _ _ k _ _ _ hM.1
      rw [HPG.out k hlt] at g1
      have g3 := frozen_of_row _ _ k _ _ hM.1
      have hix := index_16 BA k (b.getD k 0) .i64 wr hlt HBS.out (by rw [HBA.out]; exact HBG.out k hlt)
      generalize a.getD k 0 = x at *
      generalize b.getD k 0 = y at *
      have hxy := xor_u8' x y
      clear hM
      go_wp2
      go_roundw
      case rel => exact ⟨k + 1, by omega, by go_num, HS.out⟩
      case measure => simp [intOf]; omega
    · have hk0 := hlt
      have hk' : k = 16 := by omega
      have hlt' : ¬ (k : Int) < 16 := by omega
      rw [hk'] at hM
      obtain ⟨h1, h2, h3, h4⟩ := hM
      rw [HPA.out] at h1
      obtain ⟨RS, hRS⟩ : ∃ RS, RS = ((xrA a b).map B8).toArray := ⟨_, rfl⟩
      have hr8 : RS.size = 16 := by rw [hRS]; simp [HLN.out]
      have HRI : Hid ((Try.prog.info? 26).map (·.size) = some RS.size) := info16 RS hr8
      have HR1 : Hid (RS.all (·.oneCell') = true) := by show _ = _; rw [hRS]; exact B8_onea _
      rw [← hRS] at h1
      have HT' : Hid _ := h1
      have HR : Hid _ := h3
      have HR8 : Hid (ZA.size = RS.size) := HZS.out.trans hr8.symm
      have HRS : Hid _ := hRS
      clear h1 h2 h3 hr8 hRS hk'
      go_wp2_with (first
        | (refine wpList_load_row rfl 26 _ rfl (w.heap.size) rfl 26 _ (0, 0) _ HT'.out Try.underlying26 rfl HRI.out ?_)
        | (refine wpList_store_row rfl 26 _ _ rfl (w.heap.size + 1 + 1) _ rfl rfl 26 _ HR.out HRI.out HR8.out HR1.out ?_))
      refine bodyPost_ret (v := .agg RS) ?_ rfl ⟨by rw [HRS.out], below_setRow h4 (by omega) _⟩
      exact results_cell_row Try.results40 _ _ (w.heap.size + 1 + 1) 26 _ (0, 0) _ rfl (setRow_heap _ _ _ _ _ _ HR.out) Try.underlying26 rfl HRI.out

/-- A block, each byte by the one that stands for it. -/
def rpA (t s : List UInt8) : List UInt8 := s.map fun x => t.getD x.toNat 0
theorem rpA_len (t s : List UInt8) (n : Nat) (h : s.length = n) : (rpA t s).length = n := by unfold rpA; simp [h]
theorem rpA_get (t s : List UInt8) (n k : Nat) (h : s.length = n) (hk : k < n) : (rpA t s).getD k 0 = t.getD (s.getD k 0).toNat 0 := by
  have hk' : k < s.length := by omega
  unfold rpA
  simp [List.getD, List.getElem?_map, List.getElem?_eq_getElem hk']

set_option maxHeartbeats 4000000 in
set_option maxRecDepth 100000 in
theorem preplaced_any (s t : List UInt8) (w : World) (ha : s.length = 16) (hb : t.length = 256) :
    Calls Try.prog 42 #[.agg (s.map B8).toArray, .agg (t.map B8).toArray] w fun e w' => e = .returned (.agg ((rpA t s).map B8).toArray) ∧ Below w.heap.size w w' := by
  have hx := rpA_len t s 16 ha
  have HLN : Hid _ := hx
  have HPS : Hid (∀ k, k < 16 → (spart (rpA t s) s k).set k (t.getD (s.getD k 0).toNat 0) = spart (rpA t s) s (k + 1)) := fun k hk => by
    have := spart_set (rpA t s) s 16 k hx ha hk
    rw [rpA_get t s 16 k ha hk] at this
    exact this
  have HPG : Hid (∀ k, k < 16 → ((spart (rpA t s) s k).map B8).toArray[k]? = some (.int .u8 ((s.getD k 0).toNat : Int))) := fun k hk => by
    rw [row_get _ 16 (spart_len _ _ 16 k hx ha (by omega)) k hk, spart_get _ _ 16 k hx ha hk]
  have HPA : Hid (spart (rpA t s) s 16 = rpA t s) := spart_all _ _ 16 hx ha
  have HBG : Hid _ := row_get t 256 hb
  have HAG : Hid _ := row_get s 16 ha
  have HP0 : Hid (spart (rpA t s) s 0 = s) := spart_zero _ _
  obtain ⟨AA, hAA⟩ : ∃ AA, AA = (s.map B8).toArray := ⟨_, rfl⟩
  obtain ⟨BA, hBA⟩ : ∃ BA, BA = (t.map B8).toArray := ⟨_, rfl⟩
  obtain ⟨ZA, hZA⟩ : ∃ ZA : Array Value, ZA = Array.replicate 16 (.int .u8 0) := ⟨_, rfl⟩
  have HZS : Hid (ZA.size = 16) := by show _ = _; rw [hZA]; simp
  have hAS : AA.size = 16 := by rw [hAA]; simp [ha]
  rw [← hAA, ← hBA]
  have HAI : Hid _ := info16 AA hAS
  have HAS : Hid _ := hAS
  have HAA : Hid _ := hAA
  have HBA : Hid _ := hBA
  have HST : Hid (F3 w 26 (spart (rpA t s) s 0) (.cells BA 27 (0, 0)) (.cells (Array.replicate 16 (.int .u8 0)) 26 (0, 0)) (((w.alloc (.cells AA 26 (0, 0))).alloc (.cells BA 27 (0, 0))).alloc (.cells (Array.replicate 16 (.int .u8 0)) 26 (0, 0)))) := F3.start _ _ _ _ _ (by rw [HP0.out, hAA])
  have HS1 : Hid ((((w.alloc (.cells AA 26 (0, 0))).alloc (.cells BA 27 (0, 0))).alloc (.cells (Array.replicate 16 (.int .u8 0)) 26 (0, 0))).heap[w.heap.size]? = some (.cells AA 26 (0, 0))) := by
    have := HST.out.1
    rw [HP0.out, ← HAA.out] at this
    exact this
  clear ha hb hAA hBA hAS hx
  go_enter Try.func42, Try.ntmps42
  go_wp2_with (first
    | (refine wpList_load_row rfl 26 _ rfl (w.heap.size) rfl 26 AA (0, 0) _ HS1.out Try.underlying26 rfl HAI.out ?_))
  go_loopw [8] (fun i wr => ∃ k : Nat, k ≤ 16 ∧ i = .int .i64 k ∧ F3 w 26 (spart (rpA t s) s k) (.cells BA 27 (0, 0)) (.cells ZA 26 (0, 0)) wr) (fun i _ => 16 - (intOf i).toNat)
  case atStart => exact ⟨0, by omega, rfl, by rw [hZA]; exact HST.out⟩
  case round =>
    clear HST hZA HS1
    obtain ⟨k, hk, rfl, hM⟩ := hrel
    by_cases hlt : k < 16
    · have hkI : (k : Int) < 16 := by omega
      have HS : Hid (F3 w 26 (spart (rpA t s) s (k + 1)) (.cells BA 27 (0, 0)) (.cells ZA 26 (0, 0)) (wr.setCell ⟨w.heap.size, k, none⟩ (.int .u8 (((t.getD (s.getD k 0).toNat 0).toNat : Nat) : Int)))) := by
        show F3 _ _ _ _ _ _
        rw [← HPS.out k hlt]; exact hM.set _ _
      have g1 := cell_of_row _ _ k _ _ _ hM.1
      rw [HPG.out k hlt] at g1
      have g3 := frozen_of_row _ _ k _ _ hM.1
      have hix := index_16 AA k (s.getD k 0) .i64 wr hlt HAS.out (by rw [HAA.out]; exact HAG.out k hlt)
      have g2 := cell_of_row _ _ (s.getD k 0).toNat _ _ _ hM.2.1
      have hxl := (s.getD k 0).toNat_lt
      rw [HBA.out, HBG.out _ hxl] at g2
      generalize s.getD k 0 = x at *
      have hxI : (x.toNat : Int) < 256 := by omega
      generalize t.getD x.toNat 0 = y at *
      clear hM hxl
      go_wp2
      go_roundw
      case rel => exact ⟨k + 1, by omega, by go_num, HS.out⟩
      case measure => simp [intOf]; omega
    · have hk0 := hlt
      have hk' : k = 16 := by omega
      have hlt' : ¬ (k : Int) < 16 := by omega
      rw [hk'] at hM
      obtain ⟨h1, h2, h3, h4⟩ := hM
      rw [HPA.out] at h1
      obtain ⟨RS, hRS⟩ : ∃ RS, RS = ((rpA t s).map B8).toArray := ⟨_, rfl⟩
      have hr8 : RS.size = 16 := by rw [hRS]; simp [HLN.out]
      have HRI : Hid ((Try.prog.info? 26).map (·.size) = some RS.size) := info16 RS hr8
      have HR1 : Hid (RS.all (·.oneCell') = true) := by show _ = _; rw [hRS]; exact B8_onea _
      rw [← hRS] at h1
      have HT' : Hid _ := h1
      have HR : Hid _ := h3
      have HR8 : Hid (ZA.size = RS.size) := HZS.out.trans hr8.symm
      have HRS : Hid _ := hRS
      clear h1 h2 h3 hr8 hRS hk'
      go_wp2_with (first
        | (refine wpList_load_row rfl 26 _ rfl (w.heap.size) rfl 26 _ (0, 0) _ HT'.out Try.underlying26 rfl HRI.out ?_)
        | (refine wpList_store_row rfl 26 _ _ rfl (w.heap.size + 1 + 1) _ rfl rfl 26 _ HR.out HRI.out HR8.out HR1.out ?_))
      refine bodyPost_ret (v := .agg RS) ?_ rfl ⟨by rw [HRS.out], below_setRow h4 (by omega) _⟩
      exact results_cell_row Try.results42 _ _ (w.heap.size + 1 + 1) 26 _ (0, 0) _ rfl (setRow_heap _ _ _ _ _ _ HR.out) Try.underlying26 rfl HRI.out

/-- A block, its row r rotated left by m times r. -/
def rtA (s : List UInt8) (m : Nat) : List UInt8 := (List.range 16).map fun i => s.getD ((i / 4 + m * (i % 4)) % 4 * 4 + i % 4) 0
theorem rtA_len (s : List UInt8) (m : Nat) : (rtA s m).length = 16 := by unfold rtA; simp
theorem rtA_get (s : List UInt8) (m k : Nat) (hk : k < 16) : (rtA s m).getD k 0 = s.getD ((k / 4 + m * (k % 4)) % 4 * 4 + k % 4) 0 := by
  unfold rtA
  rw [List.getD, List.getElem?_map, List.getElem?_range hk]; rfl

set_option maxHeartbeats 4000000 in
set_option maxRecDepth 100000 in
theorem protated_any (s : List UInt8) (m : Nat) (w : World) (ha : s.length = 16) (hm : m ≤ 3) :
    Calls Try.prog 43 #[.agg (s.map B8).toArray, .int .i64 (m : Int)] w fun e w' => e = .returned (.agg ((rtA s m).map B8).toArray) ∧ Below w.heap.size w w' := by
  have hx := rtA_len s m
  have HLN : Hid _ := hx
  have HPS : Hid (∀ k, k < 16 → (bpart 16 (rtA s m) k).set k (s.getD ((k / 4 + m * (k % 4)) % 4 * 4 + k % 4) 0) = bpart 16 (rtA s m) (k + 1)) := fun k hk => by
    have := bpart_set' 16 (rtA s m) k hx hk
    rw [rtA_get s m k hk] at this
    exact this
  have HPG : Hid (∀ k, k < 16 → ∃ u, ((bpart 16 (rtA s m) k).map B8).toArray[k]? = some (.int .u8 u)) := fun k hk => bpart_cell' 16 _ k hx hk
  have HPA : Hid (bpart 16 (rtA s m) 16 = rtA s m) := bpart_all 16 _ hx
  have HAG : Hid _ := row_get s 16 ha
  have hz0 : bpart 16 (rtA s m) 0 = List.replicate 16 0 := by unfold bpart; rw [List.take_zero, List.nil_append]
  obtain ⟨AA, hAA⟩ : ∃ AA, AA = (s.map B8).toArray := ⟨_, rfl⟩
  obtain ⟨ZA, hZA⟩ : ∃ ZA : Array Value, ZA = Array.replicate 16 (.int .u8 0) := ⟨_, rfl⟩
  have HZS : Hid (ZA.size = 16) := by show _ = _; rw [hZA]; simp
  rw [← hAA]
  have HAA : Hid _ := hAA
  have HST : Hid (B3 w (.cells AA 26 (0, 0)) (.cells (Array.replicate 16 (.int .u8 0)) 26 (0, 0)) 26 (bpart 16 (rtA s m) 0) (((w.alloc (.cells AA 26 (0, 0))).alloc (.cells (Array.replicate 16 (.int .u8 0)) 26 (0, 0))).alloc (.cells (Array.replicate 16 (.int .u8 0)) 26 (0, 0)))) := B3.start _ _ _ _ _ (by rw [hz0]; rfl)
  clear ha hAA hx hz0
  go_enter Try.func43, Try.ntmps43
  go_wp2
  go_loopw [9] (fun i wr => ∃ k : Nat, k ≤ 16 ∧ i = .int .i64 k ∧ B3 w (.cells AA 26 (0, 0)) (.cells ZA 26 (0, 0)) 26 (bpart 16 (rtA s m) k) wr) (fun i _ => 16 - (intOf i).toNat)
  case atStart => exact ⟨0, by omega, rfl, by rw [hZA]; exact HST.out⟩
  case round =>
    clear HST hZA
    obtain ⟨k, hk, rfl, hM⟩ := hrel
    by_cases hlt : k < 16
    · have hkI : (k : Int) < 16 := by omega
      obtain ⟨c, hc⟩ : ∃ c, c = k / 4 := ⟨_, rfl⟩
      obtain ⟨r, hr⟩ : ∃ r, r = k % 4 := ⟨_, rfl⟩
      have hps := HPS.out k hlt
      rw [← hc, ← hr] at hps
      have hr4 : r < 4 := by omega
      have hc4 : c < 4 := by omega
      have hp : m * r ≤ 9 := Nat.le_trans (Nat.mul_le_mul hm (show r ≤ 3 by omega)) (by decide)
      obtain ⟨p, hpe⟩ : ∃ p, p = m * r := ⟨_, rfl⟩
      obtain ⟨d, hd⟩ : ∃ d, d = (c + m * r) % 4 := ⟨_, rfl⟩
      rw [← hd] at hps
      have hd4 : d < 4 := by omega
      have HS : Hid (B3 w (.cells AA 26 (0, 0)) (.cells ZA 26 (0, 0)) 26 (bpart 16 (rtA s m) (k + 1)) (wr.setCell ⟨w.heap.size + 1 + 1, k, none⟩ (.int .u8 (((s.getD (d * 4 + r) 0).toNat : Nat) : Int)))) := by
        show B3 _ _ _ _ _ _
        rw [← hps]; exact hM.set _ _
      obtain ⟨u, hu⟩ := HPG.out k hlt
      have g1 := cell_of_row _ _ k _ _ _ hM.2.2.1
      rw [hu] at g1
      have g3 := frozen_of_row _ _ k _ _ hM.2.2.1
      have g2 := cell_of_row _ _ (d * 4 + r) _ _ _ hM.1
      rw [HAA.out, HAG.out _ (by omega)] at g2
      generalize s.getD (d * 4 + r) 0 = x at *
      have q1 : Int.tdiv (k : Int) 4 = (c : Int) := by rw [Int.tdiv_eq_ediv_of_nonneg (by omega)]; omega
      have q2 : Int.tmod (k : Int) 4 = (r : Int) := by rw [Int.tmod_eq_emod_of_nonneg (by omega)]; omega
      have q1' : (k : Int) / 4 = (c : Int) := by omega
      have q2' : (k : Int) % 4 = (r : Int) := by omega
      have q3 : (m : Int) * (r : Int) = (p : Int) := by rw [hpe]; simp
      have q4 : IntKind.i64.wrap (p : Int) = (p : Int) := wrap_i64_7 _ (by omega) (by omega)
      have q5 : IntKind.i64.wrap ((c : Int) + (p : Int)) = (c : Int) + (p : Int) := wrap_i64_7 _ (by omega) (by omega)
      have q6 : Int.tmod ((c : Int) + (p : Int)) 4 = (d : Int) := by rw [Int.tmod_eq_emod_of_nonneg (by omega), hd, ← hpe]; omega
      have q6' : ((c : Int) + (p : Int)) % 4 = (d : Int) := by rw [hd, ← hpe]; omega
      have q7 : IntKind.i64.wrap ((d : Int) * 4) = (d : Int) * 4 := wrap_i64_7 _ (by omega) (by omega)
      have q8 : IntKind.i64.wrap ((d : Int) * 4 + (r : Int)) = (d : Int) * 4 + (r : Int) := wrap_i64_7 _ (by omega) (by omega)
      have t1 : ((d : Int) * 4 + (r : Int)).toNat = d * 4 + r := by omega
      have l1 : (0 : Int) ≤ (d : Int) * 4 + (r : Int) ∧ (d : Int) * 4 + (r : Int) < 16 := by omega
      have hpl : p ≤ 9 := by omega
      clear hM hps hc hr hd hpe hp hu
      go_wp2
      go_roundw
      case rel => exact ⟨k + 1, by omega, by go_num, HS.out⟩
      case measure => simp [intOf]; omega
    · have hk0 := hlt
      have hk' : k = 16 := by omega
      have hlt' : ¬ (k : Int) < 16 := by omega
      rw [hk'] at hM
      obtain ⟨h1, h2, h3, h4⟩ := hM
      rw [HPA.out] at h3
      obtain ⟨RS, hRS⟩ : ∃ RS, RS = ((rtA s m).map B8).toArray := ⟨_, rfl⟩
      have hr8 : RS.size = 16 := by rw [hRS]; simp [HLN.out]
      have HRI : Hid ((Try.prog.info? 26).map (·.size) = some RS.size) := info16 RS hr8
      have HR1 : Hid (RS.all (·.oneCell') = true) := by show _ = _; rw [hRS]; exact B8_onea _
      rw [← hRS] at h3
      have HT' : Hid _ := h3
      have HR : Hid _ := h2
      have HR8 : Hid (ZA.size = RS.size) := HZS.out.trans hr8.symm
      have HRS : Hid _ := hRS
      clear h1 h2 h3 hr8 hRS hk'
      go_wp2_with (first
        | (refine wpList_load_row rfl 26 _ rfl (w.heap.size + 1 + 1) rfl 26 _ (0, 0) _ HT'.out Try.underlying26 rfl HRI.out ?_)
        | (refine wpList_store_row rfl 26 _ _ rfl (w.heap.size + 1) _ rfl rfl 26 _ HR.out HRI.out HR8.out HR1.out ?_))
      refine bodyPost_ret (v := .agg RS) ?_ rfl ⟨by rw [HRS.out], below_setRow h4 (by omega) _⟩
      exact results_cell_row Try.results43 _ _ (w.heap.size + 1) 26 _ (0, 0) _ rfl (setRow_heap _ _ _ _ _ _ HR.out) Try.underlying26 rfl HRI.out

end Go.Proofs.Ytjohckgdbbhpdaa
