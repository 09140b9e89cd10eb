/- Several texts in one. -/
import Derived.Test.YtbmmibmfjhehhaaGreatAx
import Derived.Laws.IdiomCopy
set_option linter.unusedVariables false
set_option linter.unusedSimpArgs false
/- Contract of ref 4's Decipher. -/
namespace Go.Proofs.YtbmmibmfjhehhaaGreat.AE
open Go.RowKit

theorem row_set (l : List UInt8) (i : Nat) (x : UInt8) : (l.map B8).toArray.setIfInBounds i (B8 x) = ((l.set i x).map B8).toArray := by
  rw [List.setIfInBounds_toArray, ← List.map_set]

end Go.Proofs.YtbmmibmfjhehhaaGreat.AE

/- Contracts of aes's allSubs, backwards, Unsub. -/
namespace Go.Proofs.YtbmmibmfjhehhaaGreat.AE
open Go.RowKit

theorem index_16 (KA : Array Value) (n : Nat) (x : UInt8) (k : IntKind) (w : World) (h : n < 16) (hs : KA.size = 16) (hka : KA[n]? = some (.int .u8 (x.toNat : Int))) : (Instr.index 86 (.agg KA) (.int k (n : Int))).run Tryz.prog w = .ok (.int .u8 (x.toNat : Int)) w := by
  obtain ⟨i0, hi, hz0, hz1, hz2⟩ := info_parts Tryz.infoU8
  have h0 : ¬ (n : Int) < 0 := by omega
  have h1 : ¬ (16 : Int) ≤ (n : Int) := by omega
  have hn : (n : Int).toNat = n := by omega
  simp [Instr.index, run_underlying Tryz.underlying86, asIntOf, hka, h0, h1, hn, sizeOf, typeInfo, hi, hz1]
  rw [if_pos h]
  simp [Go.part, sizeOf, typeInfo, hi, hz1, hka]
theorem index_4 (KA : Array Value) (n : Nat) (x : UInt8) (k : IntKind) (w : World) (h : n < 4) (hs : KA.size = 4) (hka : KA[n]? = some (.int .u8 (x.toNat : Int))) : (Instr.index 125 (.agg KA) (.int k (n : Int))).run Tryz.prog w = .ok (.int .u8 (x.toNat : Int)) w := by
  obtain ⟨i0, hi, hz0, hz1, hz2⟩ := info_parts Tryz.infoU8
  have h0 : ¬ (n : Int) < 0 := by omega
  have h1 : ¬ (4 : Int) ≤ (n : Int) := by omega
  have hn : (n : Int).toNat = n := by omega
  simp [Instr.index, run_underlying Tryz.underlying125, asIntOf, hka, h0, h1, hn, sizeOf, typeInfo, hi, hz1]
  rw [if_pos h]
  simp [Go.part, sizeOf, typeInfo, hi, hz1, hka]

set_option maxHeartbeats 4000000 in
set_option maxRecDepth 100000 in
theorem pallSubs_any (w : World) : Calls Tryz.prog 86 #[] w fun e w' => e = .returned (.agg (tabA.map B8).toArray) ∧ Below w.heap.size w w' := by
  have hl := tabA_len
  have HG : Hid (∀ i, i < 256 → tabA.getD i 0 = sbP (UInt8.ofNat i)) := fun i hi => by rw [tabA_get i hi, sbA_sbP]
  have hsu := fun c W => psub_any c W
  have HSZ : Hid ((tabA.map B8).toArray.size = 256) := by show _ = _; simp [hl]
  have HONE : Hid _ := B8_onea tabA
  generalize tabA = T at *
  have HL : Hid _ := hl
  have hzv := fun W => zero256 W
  have hz0 : bpart 256 T 0 = List.replicate 256 0 := by unfold bpart; rw [List.take_zero, List.nil_append]
  rw [← hz0] at hzv
  obtain ⟨ZA, hZA⟩ : ∃ ZA, ZA = ((bpart 256 T 0).map B8).toArray := ⟨_, rfl⟩
  rw [← hZA] at hzv
  have HZA : Hid _ := hZA
  clear hl hz0 hZA
  go_enter Tryz.func86, Tryz.ntmps86
  go_wp2
  go_loopw [3] (fun i wr => ∃ k : Nat, k ≤ 256 ∧ i = .int .i64 k ∧ wr.heap[w.heap.size + 1]? = some (.cells ((bpart 256 T k).map B8).toArray 109 (0, 0)) ∧ wr.heap[w.heap.size]? = some (.cells ZA 109 (0, 0)) ∧ Below w.heap.size w wr) (fun i _ => 256 - (intOf i).toNat)
  case atStart => exact ⟨0, by omega, rfl, by rw [← HZA.out]; exact heap_alloc2_new _ _ _, alloc2_first _ _ _, ((Below.refl _ _).alloc (Nat.le_refl _) _).alloc (by simp) _⟩
  case round =>
    obtain ⟨k, hk, rfl, hT, hR, hbel⟩ := hrel
    have HT : Hid _ := hT
    have HR : Hid _ := hR
    by_cases hlt : k < 256
    · have hset := bpart_set 256 T k HL.out hlt
      obtain ⟨u, hu⟩ := bpart_cell 256 T k HL.out hlt
      have hcu := cell_of_row _ _ k _ _ _ hT
      rw [hu] at hcu
      have hfu := frozen_of_row _ _ k _ _ hT
      rw [HG.out k hlt] at hset
      obtain ⟨c, hc⟩ : ∃ c, c = UInt8.ofNat k := ⟨_, rfl⟩
      have hck : c.toNat = k := by rw [hc]; show _ % 256 = _; omega
      rw [← hc] at hset
      have hst := hsu c wr
      rw [hck] at hst
      have HX : Hid (B8 (sbP c) = .int .u8 ((sbP c).toNat : Int)) := rfl
      generalize sbP c = y at *
      have HSET : Hid _ := hset
      have hkI : (k : Int) < 256 := by omega
      clear hset hT hR hu hc hck
      go_wp2_with fail
      refine hst.mono ?_
      rintro e wx ⟨rfl, rfl⟩
      clear hst
      go_wp2
      go_roundw
      case rel =>
        refine ⟨k + 1, by omega, by go_num, ?_, ?_, hbel.setCell (p := ⟨w.heap.size + 1, k, none⟩) (by simp) _⟩
        · rw [← HSET.out, HX.out]; exact heap_setCell_same _ (w.heap.size + 1) k _ 109 _ HT.out
        · rw [heap_setCell_other _ _ _ _ (by simp)]; exact HR.out
      case measure => simp [intOf]; omega
    · have hk' : k = 256 := by omega
      rw [hk', bpart_all 256 T HL.out] at hT
      have HT' : Hid _ := hT
      have HI : Hid ((Tryz.prog.info? 109).map (·.size) = some (T.map B8).toArray.size) := by show _ = _; rw [HSZ.out]; kernel_rfl
      have HZ : Hid (ZA.size = (T.map B8).toArray.size) := by show _ = _; rw [HSZ.out, HZA.out]; simp [bpart_len 256 T 0 HL.out (by omega)]
      have HX : Hid (∃ TA, TA = (T.map B8).toArray) := ⟨_, rfl⟩
      obtain ⟨TA, hTA⟩ := HX.out
      rw [← hTA] at HI HZ HT'
      have HONE' : Hid _ := HONE.out
      rw [← hTA] at HONE'
      have HTA : Hid _ := hTA
      clear hT hR HT hk' hTA HX
      go_wp2_with (first
        | (refine wpList_load_row rfl 109 _ rfl (w.heap.size + 1) rfl 109 _ (0, 0) _ HT'.out Tryz.underlying109 rfl HI.out ?_)
        | (refine wpList_store_row rfl 109 _ _ rfl w.heap.size _ rfl rfl 109 _ HR.out HI.out HZ.out HONE'.out ?_))
      refine bodyPost_ret (v := .agg TA) ?_ rfl ⟨by rw [HTA.out], below_setRow hbel (Nat.le_refl _) _⟩
      exact results_cell_row Tryz.results86 _ _ w.heap.size 109 _ (0, 0) _ rfl (setRow_heap _ _ _ _ _ _ HR.out) Tryz.underlying109 rfl HI.out

def B3 (w : World) (o0 o1 : Obj) (t : TypeId) (l : List UInt8) (wr : World) : Prop :=
  wr.heap[w.heap.size]? = some o0 ∧ wr.heap[w.heap.size + 1]? = some o1 ∧ wr.heap[w.heap.size + 1 + 1]? = some (.cells (l.map B8).toArray t (0, 0)) ∧ Below w.heap.size w wr
theorem B3.set {w : World} {o0 o1 : Obj} {t : TypeId} {l : List UInt8} {wr : World} (h : B3 w o0 o1 t l wr) (i : Nat) (x : UInt8) : B3 w o0 o1 t (l.set i x) (wr.setCell ⟨w.heap.size + 1 + 1, i, none⟩ (B8 x)) := by
  obtain ⟨h1, h2, h3, h4⟩ := h
  have hb := (Below.refl (w.heap.size + 1 + 1) wr).setCell (p := ⟨w.heap.size + 1 + 1, i, none⟩) (Nat.le_refl _) (B8 x)
  refine ⟨(hb.block _ (by omega)).trans h1, (hb.block _ (by omega)).trans h2, ?_, h4.setCell (p := ⟨w.heap.size + 1 + 1, i, none⟩) (by show w.heap.size ≤ w.heap.size + 1 + 1; omega) _⟩
  rw [← row_set]; exact heap_setCell_same _ (w.heap.size + 1 + 1) i _ t _ h3
theorem B3.start {w : World} (o0 o1 : Obj) (t : TypeId) (l : List UInt8) (A : Array Value) (hA : A = (l.map B8).toArray) : B3 w o0 o1 t l (((w.alloc o0).alloc o1).alloc (.cells A t (0, 0))) := by
  subst hA
  refine ⟨?_, ?_, heap_at _ _ _ (by simp), (((Below.refl _ _).alloc (Nat.le_refl _) _).alloc (by simp) _).alloc (by simp; omega) _⟩
  · rw [Below.heap_alloc _ _ _ (by simp; omega), Below.heap_alloc _ _ _ (by simp)]; exact heap_at _ _ _ rfl
  · rw [Below.heap_alloc _ _ _ (by simp)]; exact heap_at _ _ _ (by simp)

end Go.Proofs.YtbmmibmfjhehhaaGreat.AE

/- Contracts of aes's xored, replaced, rotated. -/
namespace Go.Proofs.YtbmmibmfjhehhaaGreat.AE
open Go.RowKit

def spart (T s : List UInt8) (k : Nat) : List UInt8 := T.take k ++ s.drop k
theorem spart_len (T s : List UInt8) (n k : Nat) (hT : T.length = n) (hs : s.length = n) (hk : k ≤ n) : (spart T s k).length = n := by unfold spart; simp [hT, hs]; omega
theorem spart_zero (T s : List UInt8) : spart T s 0 = s := by unfold spart; simp
theorem spart_all (T s : List UInt8) (n : Nat) (hT : T.length = n) (hs : s.length = n) : spart T s n = T := by
  unfold spart
  rw [List.take_of_length_le (by omega), List.drop_of_length_le (by omega), List.append_nil]
theorem spart_get (T s : List UInt8) (n k : Nat) (hT : T.length = n) (hs : s.length = n) (hk : k < n) : (spart T s k).getD k 0 = s.getD k 0 := by
  unfold spart
  have hl : (T.take k).length = k := by simp; omega
  rw [List.getD, List.getElem?_append_right (by omega), hl, Nat.sub_self, List.getElem?_drop, Nat.add_zero, List.getD]
theorem spart_set (T s : List UInt8) (n k : Nat) (hT : T.length = n) (hs : s.length = n) (hk : k < n) : (spart T s k).set k (T.getD k 0) = spart T s (k + 1) := by
  have hk' : k < T.length := by omega
  have ha' : k < s.length := by omega
  unfold spart
  rw [List.set_append_right _ _ (by simp; omega), List.take_succ_eq_append_getElem hk', List.drop_eq_getElem_cons ha']
  rw [show T.getD k 0 = T[k] from by simp [List.getD, List.getElem?_eq_getElem hk']]
  simp only [List.length_take, Nat.min_eq_left (show k ≤ T.length by omega), Nat.sub_self, List.set_cons_zero, List.append_assoc, List.singleton_append]
theorem bpart_set' (n : Nat) (T : List UInt8) (k : Nat) (hT : T.length = n) (h : k < n) : (bpart n T k).set k (T.getD k 0) = bpart n T (k + 1) := by
  have hk : k < T.length := by omega
  unfold bpart
  rw [List.set_append_right _ _ (by simp; omega), List.take_succ_eq_append_getElem hk]
  simp only [List.length_take, Nat.min_eq_left (show k ≤ T.length by omega), Nat.sub_self]
  rw [show n - k = (n - (k + 1)) + 1 by omega, List.replicate_succ, List.set_cons_zero]
  rw [show T.getD k 0 = T[k] from by simp [List.getD, List.getElem?_eq_getElem hk]]
  simp only [List.append_assoc, List.singleton_append]
def F3 (w : World) (t : TypeId) (l : List UInt8) (o1 o2 : Obj) (wr : World) : Prop :=
  wr.heap[w.heap.size]? = some (.cells (l.map B8).toArray t (0, 0)) ∧ wr.heap[w.heap.size + 1]? = some o1 ∧ wr.heap[w.heap.size + 1 + 1]? = some o2 ∧ Below w.heap.size w wr
theorem F3.set {w : World} {o1 o2 : Obj} {t : TypeId} {l : List UInt8} {wr : World} (h : F3 w t l o1 o2 wr) (i : Nat) (x : UInt8) : F3 w t (l.set i x) o1 o2 (wr.setCell ⟨w.heap.size, i, none⟩ (B8 x)) := by
  obtain ⟨h1, h2, h3, h4⟩ := h
  refine ⟨?_, ?_, ?_, h4.setCell (p := ⟨w.heap.size, i, none⟩) (Nat.le_refl _) _⟩
  · rw [← row_set]; exact heap_setCell_same _ w.heap.size i _ t _ h1
  · rw [heap_setCell_other _ _ _ _ (by show w.heap.size + 1 ≠ w.heap.size; omega)]; exact h2
  · rw [heap_setCell_other _ _ _ _ (by show w.heap.size + 1 + 1 ≠ w.heap.size; omega)]; exact h3
theorem F3.start {w : World} (t : TypeId) (l : List UInt8) (o1 o2 : Obj) (A : Array Value) (hA : A = (l.map B8).toArray) : F3 w t l o1 o2 (((w.alloc (.cells A t (0, 0))).alloc o1).alloc o2) := by
  subst hA
  refine ⟨?_, ?_, heap_at _ _ _ (by simp), (((Below.refl _ _).alloc (Nat.le_refl _) _).alloc (by simp) _).alloc (by simp; omega) _⟩
  · rw [Below.heap_alloc _ _ _ (by simp; omega), Below.heap_alloc _ _ _ (by simp)]; exact heap_at _ _ _ rfl
  · rw [Below.heap_alloc _ _ _ (by simp)]; exact heap_at _ _ _ (by simp)
theorem info16 (RS : Array Value) (h : RS.size = 16) : (Tryz.prog.info? 86).map (·.size) = some RS.size := by rw [h]; kernel_rfl


theorem xrA_get (a b : List UInt8) (n k : Nat) (ha : a.length = n) (hb : b.length = n) (hk : k < n) : (xrA a b).getD k 0 = a.getD k 0 ^^^ b.getD k 0 := by
  have hx := xrA_len a b n ha hb
  have hk' : k < (xrA a b).length := by omega
  have ha' : k < a.length := by omega
  have hb' : k < b.length := by omega
  have e1 : (xrA a b)[k] = a[k] ^^^ b[k] := by unfold xrA; exact List.getElem_zipWith ..
  simp [List.getD, List.getElem?_eq_getElem ha', List.getElem?_eq_getElem hb', List.getElem?_eq_getElem hk', e1]

set_option maxHeartbeats 4000000 in
set_option maxRecDepth 100000 in
theorem pxored_any (a b : List UInt8) (w : World) (ha : a.length = 16) (hb : b.length = 16) :
    Calls Tryz.prog 105 #[.agg (a.map B8).toArray, .agg (b.map B8).toArray] w fun e w' => e = .returned (.agg ((xrA a b).map B8).toArray) ∧ Below w.heap.size w w' := by
  have hx := xrA_len a b 16 ha hb
  have HLN : Hid _ := hx
  have HPS : Hid (∀ k, k < 16 → (spart (xrA a b) a k).set k (a.getD k 0 ^^^ b.getD k 0) = spart (xrA a b) a (k + 1)) := fun k hk => by
    have := spart_set (xrA a b) a 16 k hx ha hk
    rw [xrA_get a b 16 k ha hb hk] at this
    exact this
  have HPG : Hid (∀ k, k < 16 → ((spart (xrA a b) a k).map B8).toArray[k]? = some (.int .u8 ((a.getD k 0).toNat : Int))) := fun k hk => by
    rw [row_get _ 16 (spart_len _ _ 16 k hx ha (by omega)) k hk, spart_get _ _ 16 k hx ha hk]
  have HPA : Hid (spart (xrA a b) a 16 = xrA a b) := spart_all _ _ 16 hx ha
  have HBG : Hid _ := row_get b 16 hb
  have HP0 : Hid (spart (xrA a b) a 0 = a) := spart_zero _ _
  obtain ⟨AA, hAA⟩ : ∃ AA, AA = (a.map B8).toArray := ⟨_, rfl⟩
  obtain ⟨BA, hBA⟩ : ∃ BA, BA = (b.map B8).toArray := ⟨_, rfl⟩
  obtain ⟨ZA, hZA⟩ : ∃ ZA : Array Value, ZA = Array.replicate 16 (.int .u8 0) := ⟨_, rfl⟩
  have HZS : Hid (ZA.size = 16) := by show _ = _; rw [hZA]; simp
  have hBS : BA.size = 16 := by rw [hBA]; simp [hb]
  rw [← hAA, ← hBA]
  have HBI : Hid _ := info16 BA hBS
  have HBS : Hid _ := hBS
  have HBA : Hid _ := hBA
  have HST : Hid (F3 w 86 (spart (xrA a b) a 0) (.cells BA 86 (0, 0)) (.cells (Array.replicate 16 (.int .u8 0)) 86 (0, 0)) (((w.alloc (.cells AA 86 (0, 0))).alloc (.cells BA 86 (0, 0))).alloc (.cells (Array.replicate 16 (.int .u8 0)) 86 (0, 0)))) := F3.start _ _ _ _ _ (by rw [HP0.out, hAA])
  clear ha hb hAA hBA hBS hx
  go_enter Tryz.func105, Tryz.ntmps105
  go_wp2_with (first
    | (refine wpList_load_row rfl 86 _ rfl (w.heap.size + 1) rfl 86 BA (0, 0) _ HST.out.2.1 Tryz.underlying86 rfl HBI.out ?_))
  go_loopw [8] (fun i wr => ∃ k : Nat, k ≤ 16 ∧ i = .int .i64 k ∧ F3 w 86 (spart (xrA a b) a k) (.cells BA 86 (0, 0)) (.cells ZA 86 (0, 0)) wr) (fun i _ => 16 - (intOf i).toNat)
  case atStart => exact ⟨0, by omega, rfl, by rw [hZA]; exact HST.out⟩
  case round =>
    clear HST hZA
    obtain ⟨k, hk, rfl, hM⟩ := hrel
    by_cases hlt : k < 16
    · have hkI : (k : Int) < 16 := by omega
      have HS : Hid (F3 w 86 (spart (xrA a b) a (k + 1)) (.cells BA 86 (0, 0)) (.cells ZA 86 (0, 0)) (wr.setCell ⟨w.heap.size, k, none⟩ (.int .u8 (((a.getD k 0 ^^^ b.getD k 0).toNat : Nat) : Int)))) := by
        show F3 _ _ _ _ _ _
        rw [← HPS.out k hlt]; exact hM.set _ _
      have g1 := cell_of_row _ _ k _ _ _ hM.1
      rw [HPG.out k hlt] at g1
      have g3 := frozen_of_row _ _ k _ _ hM.1
      have hix := index_16 BA k (b.getD k 0) .i64 wr hlt HBS.out (by rw [HBA.out]; exact HBG.out k hlt)
      generalize a.getD k 0 = x at *
      generalize b.getD k 0 = y at *
      have hxy := xor_u8' x y
      clear hM
      go_wp2
      go_roundw
      case rel => exact ⟨k + 1, by omega, by go_num, HS.out⟩
      case measure => simp [intOf]; omega
    · have hk0 := hlt
      have hk' : k = 16 := by omega
      have hlt' : ¬ (k : Int) < 16 := by omega
      rw [hk'] at hM
      obtain ⟨h1, h2, h3, h4⟩ := hM
      rw [HPA.out] at h1
      obtain ⟨RS, hRS⟩ : ∃ RS, RS = ((xrA a b).map B8).toArray := ⟨_, rfl⟩
      have hr8 : RS.size = 16 := by rw [hRS]; simp [HLN.out]
      have HRI : Hid ((Tryz.prog.info? 86).map (·.size) = some RS.size) := info16 RS hr8
      have HR1 : Hid (RS.all (·.oneCell') = true) := by show _ = _; rw [hRS]; exact B8_onea _
      rw [← hRS] at h1
      have HT' : Hid _ := h1
      have HR : Hid _ := h3
      have HR8 : Hid (ZA.size = RS.size) := HZS.out.trans hr8.symm
      have HRS : Hid _ := hRS
      clear h1 h2 h3 hr8 hRS hk'
      go_wp2_with (first
        | (refine wpList_load_row rfl 86 _ rfl (w.heap.size) rfl 86 _ (0, 0) _ HT'.out Tryz.underlying86 rfl HRI.out ?_)
        | (refine wpList_store_row rfl 86 _ _ rfl (w.heap.size + 1 + 1) _ rfl rfl 86 _ HR.out HRI.out HR8.out HR1.out ?_))
      refine bodyPost_ret (v := .agg RS) ?_ rfl ⟨by rw [HRS.out], below_setRow h4 (by omega) _⟩
      exact results_cell_row Tryz.results105 _ _ (w.heap.size + 1 + 1) 86 _ (0, 0) _ rfl (setRow_heap _ _ _ _ _ _ HR.out) Tryz.underlying86 rfl HRI.out

def rpA (t s : List UInt8) : List UInt8 := s.map fun x => t.getD x.toNat 0
theorem rpA_len (t s : List UInt8) (n : Nat) (h : s.length = n) : (rpA t s).length = n := by unfold rpA; simp [h]
theorem rpA_get (t s : List UInt8) (n k : Nat) (h : s.length = n) (hk : k < n) : (rpA t s).getD k 0 = t.getD (s.getD k 0).toNat 0 := by
  have hk' : k < s.length := by omega
  unfold rpA
  simp [List.getD, List.getElem?_map, List.getElem?_eq_getElem hk']

set_option maxHeartbeats 4000000 in
set_option maxRecDepth 100000 in
theorem preplaced_any (s t : List UInt8) (w : World) (ha : s.length = 16) (hb : t.length = 256) :
    Calls Tryz.prog 107 #[.agg (s.map B8).toArray, .agg (t.map B8).toArray] w fun e w' => e = .returned (.agg ((rpA t s).map B8).toArray) ∧ Below w.heap.size w w' := by
  have hx := rpA_len t s 16 ha
  have HLN : Hid _ := hx
  have HPS : Hid (∀ k, k < 16 → (spart (rpA t s) s k).set k (t.getD (s.getD k 0).toNat 0) = spart (rpA t s) s (k + 1)) := fun k hk => by
    have := spart_set (rpA t s) s 16 k hx ha hk
    rw [rpA_get t s 16 k ha hk] at this
    exact this
  have HPG : Hid (∀ k, k < 16 → ((spart (rpA t s) s k).map B8).toArray[k]? = some (.int .u8 ((s.getD k 0).toNat : Int))) := fun k hk => by
    rw [row_get _ 16 (spart_len _ _ 16 k hx ha (by omega)) k hk, spart_get _ _ 16 k hx ha hk]
  have HPA : Hid (spart (rpA t s) s 16 = rpA t s) := spart_all _ _ 16 hx ha
  have HBG : Hid _ := row_get t 256 hb
  have HAG : Hid _ := row_get s 16 ha
  have HP0 : Hid (spart (rpA t s) s 0 = s) := spart_zero _ _
  obtain ⟨AA, hAA⟩ : ∃ AA, AA = (s.map B8).toArray := ⟨_, rfl⟩
  obtain ⟨BA, hBA⟩ : ∃ BA, BA = (t.map B8).toArray := ⟨_, rfl⟩
  obtain ⟨ZA, hZA⟩ : ∃ ZA : Array Value, ZA = Array.replicate 16 (.int .u8 0) := ⟨_, rfl⟩
  have HZS : Hid (ZA.size = 16) := by show _ = _; rw [hZA]; simp
  have hAS : AA.size = 16 := by rw [hAA]; simp [ha]
  rw [← hAA, ← hBA]
  have HAI : Hid _ := info16 AA hAS
  have HAS : Hid _ := hAS
  have HAA : Hid _ := hAA
  have HBA : Hid _ := hBA
  have HST : Hid (F3 w 86 (spart (rpA t s) s 0) (.cells BA 109 (0, 0)) (.cells (Array.replicate 16 (.int .u8 0)) 86 (0, 0)) (((w.alloc (.cells AA 86 (0, 0))).alloc (.cells BA 109 (0, 0))).alloc (.cells (Array.replicate 16 (.int .u8 0)) 86 (0, 0)))) := F3.start _ _ _ _ _ (by rw [HP0.out, hAA])
  have HS1 : Hid ((((w.alloc (.cells AA 86 (0, 0))).alloc (.cells BA 109 (0, 0))).alloc (.cells (Array.replicate 16 (.int .u8 0)) 86 (0, 0))).heap[w.heap.size]? = some (.cells AA 86 (0, 0))) := by
    have := HST.out.1
    rw [HP0.out, ← HAA.out] at this
    exact this
  clear ha hb hAA hBA hAS hx
  go_enter Tryz.func107, Tryz.ntmps107
  go_wp2_with (first
    | (refine wpList_load_row rfl 86 _ rfl (w.heap.size) rfl 86 AA (0, 0) _ HS1.out Tryz.underlying86 rfl HAI.out ?_))
  go_loopw [8] (fun i wr => ∃ k : Nat, k ≤ 16 ∧ i = .int .i64 k ∧ F3 w 86 (spart (rpA t s) s k) (.cells BA 109 (0, 0)) (.cells ZA 86 (0, 0)) wr) (fun i _ => 16 - (intOf i).toNat)
  case atStart => exact ⟨0, by omega, rfl, by rw [hZA]; exact HST.out⟩
  case round =>
    clear HST hZA HS1
    obtain ⟨k, hk, rfl, hM⟩ := hrel
    by_cases hlt : k < 16
    · have hkI : (k : Int) < 16 := by omega
      have HS : Hid (F3 w 86 (spart (rpA t s) s (k + 1)) (.cells BA 109 (0, 0)) (.cells ZA 86 (0, 0)) (wr.setCell ⟨w.heap.size, k, none⟩ (.int .u8 (((t.getD (s.getD k 0).toNat 0).toNat : Nat) : Int)))) := by
        show F3 _ _ _ _ _ _
        rw [← HPS.out k hlt]; exact hM.set _ _
      have g1 := cell_of_row _ _ k _ _ _ hM.1
      rw [HPG.out k hlt] at g1
      have g3 := frozen_of_row _ _ k _ _ hM.1
      have hix := index_16 AA k (s.getD k 0) .i64 wr hlt HAS.out (by rw [HAA.out]; exact HAG.out k hlt)
      have g2 := cell_of_row _ _ (s.getD k 0).toNat _ _ _ hM.2.1
      have hxl := (s.getD k 0).toNat_lt
      rw [HBA.out, HBG.out _ hxl] at g2
      generalize s.getD k 0 = x at *
      have hxI : (x.toNat : Int) < 256 := by omega
      generalize t.getD x.toNat 0 = y at *
      clear hM hxl
      go_wp2
      go_roundw
      case rel => exact ⟨k + 1, by omega, by go_num, HS.out⟩
      case measure => simp [intOf]; omega
    · have hk0 := hlt
      have hk' : k = 16 := by omega
      have hlt' : ¬ (k : Int) < 16 := by omega
      rw [hk'] at hM
      obtain ⟨h1, h2, h3, h4⟩ := hM
      rw [HPA.out] at h1
      obtain ⟨RS, hRS⟩ : ∃ RS, RS = ((rpA t s).map B8).toArray := ⟨_, rfl⟩
      have hr8 : RS.size = 16 := by rw [hRS]; simp [HLN.out]
      have HRI : Hid ((Tryz.prog.info? 86).map (·.size) = some RS.size) := info16 RS hr8
      have HR1 : Hid (RS.all (·.oneCell') = true) := by show _ = _; rw [hRS]; exact B8_onea _
      rw [← hRS] at h1
      have HT' : Hid _ := h1
      have HR : Hid _ := h3
      have HR8 : Hid (ZA.size = RS.size) := HZS.out.trans hr8.symm
      have HRS : Hid _ := hRS
      clear h1 h2 h3 hr8 hRS hk'
      go_wp2_with (first
        | (refine wpList_load_row rfl 86 _ rfl (w.heap.size) rfl 86 _ (0, 0) _ HT'.out Tryz.underlying86 rfl HRI.out ?_)
        | (refine wpList_store_row rfl 86 _ _ rfl (w.heap.size + 1 + 1) _ rfl rfl 86 _ HR.out HRI.out HR8.out HR1.out ?_))
      refine bodyPost_ret (v := .agg RS) ?_ rfl ⟨by rw [HRS.out], below_setRow h4 (by omega) _⟩
      exact results_cell_row Tryz.results107 _ _ (w.heap.size + 1 + 1) 86 _ (0, 0) _ rfl (setRow_heap _ _ _ _ _ _ HR.out) Tryz.underlying86 rfl HRI.out

def rtA (s : List UInt8) (m : Nat) : List UInt8 := (List.range 16).map fun i => s.getD ((i / 4 + m * (i % 4)) % 4 * 4 + i % 4) 0
theorem rtA_len (s : List UInt8) (m : Nat) : (rtA s m).length = 16 := by unfold rtA; simp
theorem rtA_get (s : List UInt8) (m k : Nat) (hk : k < 16) : (rtA s m).getD k 0 = s.getD ((k / 4 + m * (k % 4)) % 4 * 4 + k % 4) 0 := by
  unfold rtA
  rw [List.getD, List.getElem?_map, List.getElem?_range hk]; rfl

set_option maxHeartbeats 4000000 in
set_option maxRecDepth 100000 in
theorem protated_any (s : List UInt8) (m : Nat) (w : World) (ha : s.length = 16) (hm : m ≤ 3) :
    Calls Tryz.prog 106 #[.agg (s.map B8).toArray, .int .i64 (m : Int)] w fun e w' => e = .returned (.agg ((rtA s m).map B8).toArray) ∧ Below w.heap.size w w' := by
  have hx := rtA_len s m
  have HLN : Hid _ := hx
  have HPS : Hid (∀ k, k < 16 → (bpart 16 (rtA s m) k).set k (s.getD ((k / 4 + m * (k % 4)) % 4 * 4 + k % 4) 0) = bpart 16 (rtA s m) (k + 1)) := fun k hk => by
    have := bpart_set' 16 (rtA s m) k hx hk
    rw [rtA_get s m k hk] at this
    exact this
  have HPG : Hid (∀ k, k < 16 → ∃ u, ((bpart 16 (rtA s m) k).map B8).toArray[k]? = some (.int .u8 u)) := fun k hk => bpart_cell' 16 _ k hx hk
  have HPA : Hid (bpart 16 (rtA s m) 16 = rtA s m) := bpart_all 16 _ hx
  have HAG : Hid _ := row_get s 16 ha
  have hz0 : bpart 16 (rtA s m) 0 = List.replicate 16 0 := by unfold bpart; rw [List.take_zero, List.nil_append]
  obtain ⟨AA, hAA⟩ : ∃ AA, AA = (s.map B8).toArray := ⟨_, rfl⟩
  obtain ⟨ZA, hZA⟩ : ∃ ZA : Array Value, ZA = Array.replicate 16 (.int .u8 0) := ⟨_, rfl⟩
  have HZS : Hid (ZA.size = 16) := by show _ = _; rw [hZA]; simp
  rw [← hAA]
  have HAA : Hid _ := hAA
  have HST : Hid (B3 w (.cells AA 86 (0, 0)) (.cells (Array.replicate 16 (.int .u8 0)) 86 (0, 0)) 86 (bpart 16 (rtA s m) 0) (((w.alloc (.cells AA 86 (0, 0))).alloc (.cells (Array.replicate 16 (.int .u8 0)) 86 (0, 0))).alloc (.cells (Array.replicate 16 (.int .u8 0)) 86 (0, 0)))) := B3.start _ _ _ _ _ (by rw [hz0]; rfl)
  clear ha hAA hx hz0
  go_enter Tryz.func106, Tryz.ntmps106
  go_wp2
  go_loopw [9] (fun i wr => ∃ k : Nat, k ≤ 16 ∧ i = .int .i64 k ∧ B3 w (.cells AA 86 (0, 0)) (.cells ZA 86 (0, 0)) 86 (bpart 16 (rtA s m) k) wr) (fun i _ => 16 - (intOf i).toNat)
  case atStart => exact ⟨0, by omega, rfl, by rw [hZA]; exact HST.out⟩
  case round =>
    clear HST hZA
    obtain ⟨k, hk, rfl, hM⟩ := hrel
    by_cases hlt : k < 16
    · have hkI : (k : Int) < 16 := by omega
      obtain ⟨c, hc⟩ : ∃ c, c = k / 4 := ⟨_, rfl⟩
      obtain ⟨r, hr⟩ : ∃ r, r = k % 4 := ⟨_, rfl⟩
      have hps := HPS.out k hlt
      rw [← hc, ← hr] at hps
      have hr4 : r < 4 := by omega
      have hc4 : c < 4 := by omega
      have hp : m * r ≤ 9 := Nat.le_trans (Nat.mul_le_mul hm (show r ≤ 3 by omega)) (by decide)
      obtain ⟨p, hpe⟩ : ∃ p, p = m * r := ⟨_, rfl⟩
      obtain ⟨d, hd⟩ : ∃ d, d = (c + m * r) % 4 := ⟨_, rfl⟩
      rw [← hd] at hps
      have hd4 : d < 4 := by omega
      have HS : Hid (B3 w (.cells AA 86 (0, 0)) (.cells ZA 86 (0, 0)) 86 (bpart 16 (rtA s m) (k + 1)) (wr.setCell ⟨w.heap.size + 1 + 1, k, none⟩ (.int .u8 (((s.getD (d * 4 + r) 0).toNat : Nat) : Int)))) := by
        show B3 _ _ _ _ _ _
        rw [← hps]; exact hM.set _ _
      obtain ⟨u, hu⟩ := HPG.out k hlt
      have g1 := cell_of_row _ _ k _ _ _ hM.2.2.1
      rw [hu] at g1
      have g3 := frozen_of_row _ _ k _ _ hM.2.2.1
      have g2 := cell_of_row _ _ (d * 4 + r) _ _ _ hM.1
      rw [HAA.out, HAG.out _ (by omega)] at g2
      generalize s.getD (d * 4 + r) 0 = x at *
      have q1 : Int.tdiv (k : Int) 4 = (c : Int) := by rw [Int.tdiv_eq_ediv_of_nonneg (by omega)]; omega
      have q2 : Int.tmod (k : Int) 4 = (r : Int) := by rw [Int.tmod_eq_emod_of_nonneg (by omega)]; omega
      have q1' : (k : Int) / 4 = (c : Int) := by omega
      have q2' : (k : Int) % 4 = (r : Int) := by omega
      have q3 : (m : Int) * (r : Int) = (p : Int) := by rw [hpe]; simp
      have q4 : IntKind.i64.wrap (p : Int) = (p : Int) := wrap_i64_7 _ (by omega) (by omega)
      have q5 : IntKind.i64.wrap ((c : Int) + (p : Int)) = (c : Int) + (p : Int) := wrap_i64_7 _ (by omega) (by omega)
      have q6 : Int.tmod ((c : Int) + (p : Int)) 4 = (d : Int) := by rw [Int.tmod_eq_emod_of_nonneg (by omega), hd, ← hpe]; omega
      have q6' : ((c : Int) + (p : Int)) % 4 = (d : Int) := by rw [hd, ← hpe]; omega
      have q7 : IntKind.i64.wrap ((d : Int) * 4) = (d : Int) * 4 := wrap_i64_7 _ (by omega) (by omega)
      have q8 : IntKind.i64.wrap ((d : Int) * 4 + (r : Int)) = (d : Int) * 4 + (r : Int) := wrap_i64_7 _ (by omega) (by omega)
      have t1 : ((d : Int) * 4 + (r : Int)).toNat = d * 4 + r := by omega
      have l1 : (0 : Int) ≤ (d : Int) * 4 + (r : Int) ∧ (d : Int) * 4 + (r : Int) < 16 := by omega
      have hpl : p ≤ 9 := by omega
      clear hM hps hc hr hd hpe hp hu
      go_wp2
      go_roundw
      case rel => exact ⟨k + 1, by omega, by go_num, HS.out⟩
      case measure => simp [intOf]; omega
    · have hk0 := hlt
      have hk' : k = 16 := by omega
      have hlt' : ¬ (k : Int) < 16 := by omega
      rw [hk'] at hM
      obtain ⟨h1, h2, h3, h4⟩ := hM
      rw [HPA.out] at h3
      obtain ⟨RS, hRS⟩ : ∃ RS, RS = ((rtA s m).map B8).toArray := ⟨_, rfl⟩
      have hr8 : RS.size = 16 := by rw [hRS]; simp [HLN.out]
      have HRI : Hid ((Tryz.prog.info? 86).map (·.size) = some RS.size) := info16 RS hr8
      have HR1 : Hid (RS.all (·.oneCell') = true) := by show _ = _; rw [hRS]; exact B8_onea _
      rw [← hRS] at h3
      have HT' : Hid _ := h3
      have HR : Hid _ := h2
      have HR8 : Hid (ZA.size = RS.size) := HZS.out.trans hr8.symm
      have HRS : Hid _ := hRS
      clear h1 h2 h3 hr8 hRS hk'
      go_wp2_with (first
        | (refine wpList_load_row rfl 86 _ rfl (w.heap.size + 1 + 1) rfl 86 _ (0, 0) _ HT'.out Tryz.underlying86 rfl HRI.out ?_)
        | (refine wpList_store_row rfl 86 _ _ rfl (w.heap.size + 1) _ rfl rfl 86 _ HR.out HRI.out HR8.out HR1.out ?_))
      refine bodyPost_ret (v := .agg RS) ?_ rfl ⟨by rw [HRS.out], below_setRow h4 (by omega) _⟩
      exact results_cell_row Tryz.results106 _ _ (w.heap.size + 1) 86 _ (0, 0) _ rfl (setRow_heap _ _ _ _ _ _ HR.out) Tryz.underlying86 rfl HRI.out

end Go.Proofs.YtbmmibmfjhehhaaGreat.AE

/- Contracts of aes's mixer, its closure, and mixed. -/
namespace Go.Proofs.YtbmmibmfjhehhaaGreat.AE
open Go.RowKit

def mcS (s f : List UInt8) (r : Nat) : Nat → UInt8
  | 0 => 0
  | k + 1 => mcS s f r k ^^^ tmP (s.getD ((r + k) % 4) 0) (f.getD k 0)
def mcA (s f : List UInt8) : List UInt8 := (List.range 4).map fun j => mcS s f j 4
def mcP (s f : List UInt8) (r k : Nat) : List UInt8 := (List.range 4).map fun j => if j < r then mcS s f j 4 else if j = r then mcS s f r k else 0
theorem mcA_len (s f : List UInt8) : (mcA s f).length = 4 := by unfold mcA; simp
theorem mcP_len (s f : List UInt8) (r k : Nat) : (mcP s f r k).length = 4 := by unfold mcP; simp
theorem mcP_start (s f : List UInt8) : mcP s f 0 0 = List.replicate 4 0 := by
  unfold mcP
  apply List.ext_getElem
  · simp
  · intro n h1 h2
    rw [List.getElem_replicate]
    simp [mcS]
theorem mcP_all (s f : List UInt8) : mcP s f 4 0 = mcA s f := by
  unfold mcP mcA
  apply List.map_congr_left
  intro j hj
  have : j < 4 := List.mem_range.1 hj
  simp [this]
theorem mcP_row (s f : List UInt8) (r : Nat) : mcP s f r 4 = mcP s f (r + 1) 0 := by
  unfold mcP
  apply List.map_congr_left
  intro j hj
  by_cases h1 : j < r
  · rw [if_pos h1, if_pos (by omega)]
  · by_cases h2 : j = r
    · rw [if_neg h1, if_pos h2, if_pos (by omega), h2]
    · rw [if_neg h1, if_neg h2, if_neg (by omega)]
      by_cases h3 : j = r + 1
      · rw [if_pos h3]; rfl
      · rw [if_neg h3]
theorem mcP_get (s f : List UInt8) (r k : Nat) (hr : r < 4) : (mcP s f r k).getD r 0 = mcS s f r k := by
  unfold mcP
  rw [List.getD, List.getElem?_map, List.getElem?_range (by omega)]
  simp
theorem mcP_set (s f : List UInt8) (r k : Nat) (hr : r < 4) : (mcP s f r k).set r (mcS s f r k ^^^ tmP (s.getD ((r + k) % 4) 0) (f.getD k 0)) = mcP s f r (k + 1) := by
  unfold mcP
  apply List.ext_getElem
  · simp
  · intro n h1 h2
    simp only [List.getElem_set, List.getElem_map, List.getElem_range]
    by_cases h : r = n
    · subst h
      rw [if_pos rfl, if_neg (by omega), if_pos rfl]; rfl
    · rw [if_neg h]
      by_cases h3 : n < r
      · rw [if_pos h3, if_pos h3]
      · rw [if_neg h3, if_neg (by omega), if_neg h3, if_neg (by omega)]
theorem B3.drew {w : World} {o0 o1 : Obj} {t : TypeId} {l : List UInt8} {wr : World} (h : B3 w o0 o1 t l wr) : B3 w o0 o1 t l wr.drew := by
  unfold B3 at *
  rw [heap_drew]
  exact ⟨h.1, h.2.1, h.2.2.1, h.2.2.2.drew⟩
theorem info4 (RS : Array Value) (h : RS.size = 4) : (Tryz.prog.info? 125).map (·.size) = some RS.size := by rw [h]; kernel_rfl

set_option maxHeartbeats 4000000 in
set_option maxRecDepth 100000 in
theorem pmixer1_any (s f : List UInt8) (c : Nat) (w : World) (hs : s.length = 4) (hf : f.length = 4) (hc : w.heap[c]? = some (.cells (f.map B8).toArray 125 (0, 0))) :
    Calls Tryz.prog 119 #[.agg (s.map B8).toArray, .pointer (some ⟨c, 0, none⟩)] w fun e w' => e = .returned (.agg ((mcA s f).map B8).toArray) ∧ Below w.heap.size w w' := by
  have hcl : c < w.heap.size := (Array.getElem?_eq_some_iff.1 hc).1
  have HLN : Hid _ := mcA_len s f
  have HPS : Hid _ := fun r k hr => mcP_set s f r k hr
  have HPG : Hid _ := fun r k hr => mcP_get s f r k hr
  have HPL : Hid _ := fun r k => mcP_len s f r k
  have HPR : Hid _ := fun r => mcP_row s f r
  have HPA : Hid _ := mcP_all s f
  have HSG : Hid _ := row_get s 4 hs
  have HFG : Hid _ := row_get f 4 hf
  obtain ⟨SA, hSA⟩ : ∃ SA, SA = (s.map B8).toArray := ⟨_, rfl⟩
  obtain ⟨FA, hFA⟩ : ∃ FA, FA = (f.map B8).toArray := ⟨_, rfl⟩
  obtain ⟨ZA, hZA⟩ : ∃ ZA : Array Value, ZA = #[.int .u8 0, .int .u8 0, .int .u8 0, .int .u8 0] := ⟨_, rfl⟩
  have HZS : Hid (ZA.size = 4) := by show _ = _; rw [hZA]; rfl
  have hFS : FA.size = 4 := by rw [hFA]; simp [hf]
  rw [← hFA] at hc
  rw [← hSA]
  have HFI : Hid _ := info4 FA hFS
  have HFS : Hid _ := hFS
  have HFA : Hid _ := hFA
  have HSA : Hid _ := hSA
  have HC : Hid (∀ wr, Below w.heap.size w wr → wr.heap[c]? = some (.cells FA 125 (0, 0))) := fun wr hb => (hb.block c hcl).trans hc
  have HST : Hid (B3 w (.cells SA 125 (0, 0)) (.cells #[.int .u8 0, .int .u8 0, .int .u8 0, .int .u8 0] 125 (0, 0)) 125 (mcP s f 0 0) (((w.alloc (.cells SA 125 (0, 0))).alloc (.cells #[.int .u8 0, .int .u8 0, .int .u8 0, .int .u8 0] 125 (0, 0))).alloc (.cells #[.int .u8 0, .int .u8 0, .int .u8 0, .int .u8 0] 125 (0, 0)))) := B3.start _ _ _ _ _ (by rw [mcP_start]; rfl)
  clear hs hf hSA hFA hFS hc
  go_enter Tryz.func119, Tryz.ntmps119
  go_wp2
  go_loopw [8] (fun i wr => ∃ r : Nat, r ≤ 4 ∧ i = .int .i64 r ∧ B3 w (.cells SA 125 (0, 0)) (.cells ZA 125 (0, 0)) 125 (mcP s f r 0) wr) (fun i _ => 4 - (intOf i).toNat)
  case atStart => exact ⟨0, by omega, rfl, by rw [hZA]; exact HST.out⟩
  case round =>
    clear HST hZA
    obtain ⟨r, hr, rfl, hM⟩ := hrel
    by_cases hlr : r < 4
    · have hrI : (r : Int) < 4 := by omega
      have HM0 : Hid _ := hM
      have HCW : Hid _ := HC.out wr hM.2.2.2
      clear hM
      go_wp2_with (first
        | (refine wpList_load_row rfl 125 _ rfl c rfl 125 FA (0, 0) _ HCW.out Tryz.underlying125 rfl HFI.out ?_))
      clear HCW
      go_loopw [12] (fun i wr => ∃ k : Nat, k ≤ 4 ∧ i = .int .i64 k ∧ B3 w (.cells SA 125 (0, 0)) (.cells ZA 125 (0, 0)) 125 (mcP s f r k) wr) (fun i _ => 4 - (intOf i).toNat)
      case atStart => exact ⟨0, by omega, rfl, HM0.out⟩
      case round =>
        clear HM0
        obtain ⟨k, hk, rfl, hM⟩ := hrel
        by_cases hlk : k < 4
        · have hkI : (k : Int) < 4 := by omega
          have HS : Hid (B3 w (.cells SA 125 (0, 0)) (.cells ZA 125 (0, 0)) 125 (mcP s f r (k + 1)) (wr.setCell ⟨w.heap.size + 1 + 1, r, none⟩ (.int .u8 (((mcS s f r k ^^^ tmP (s.getD ((r + k) % 4) 0) (f.getD k 0)).toNat : Nat) : Int)))) := by
            show B3 _ _ _ _ _ _
            rw [← HPS.out r k hlr]; exact hM.set _ _
          obtain ⟨h1, h2, h3, h4⟩ := hM
          have hix := index_4 FA k (f.getD k 0) .i64 wr hlk HFS.out (by rw [HFA.out]; exact HFG.out k hlk)
          have g1 := cell_of_row _ _ ((r + k) % 4) _ _ _ h1
          rw [HSA.out, HSG.out _ (by omega)] at g1
          have g4 := cell_of_row _ _ r _ _ _ h3
          rw [row_get _ 4 (HPL.out r k) _ hlr, HPG.out r k hlr] at g4
          have g5 := frozen_of_row _ _ r _ _ h3
          generalize s.getD ((r + k) % 4) 0 = x at *
          generalize f.getD k 0 = y at *
          generalize mcS s f r k = u at *
          clear h1 h2 h3 h4
          have ht := fun W => ptimes_any x y W
          have hxu := xor_u8' u (tmP x y)
          rw [UInt8.toNat_xor] at HS
          generalize tmP x y = z at *
          have q1 : IntKind.i64.wrap ((r : Int) + k) = (r : Int) + k := wrap_i64_7 _ (by omega) (by omega)
          have q5 : Int.tmod ((r : Int) + k) 4 = (((r + k) % 4 : Nat) : Int) := by
            rw [Int.tmod_eq_emod_of_nonneg (by omega)]; omega
          have q6 : ((r : Int) + k) % 4 = (((r + k) % 4 : Nat) : Int) := by omega
          have l3 : (((r + k) % 4 : Nat) : Int) < 4 := by omega
          generalize (r + k) % 4 = m at *
          go_wp2
          go_region_with (first | (go_at_call 103; refine (ht _).mono ?_; rintro e wx ⟨rfl, rfl⟩))
          all_goals
            go_wp2
            go_roundw
            case rel => exact ⟨k + 1, by omega, by go_num, HS.out.drew⟩
            case measure => simp [intOf]; omega
        · have hk4 : k = 4 := by omega
          have hkI : ¬ (k : Int) < 4 := by omega
          have HM1 : Hid (B3 w (.cells SA 125 (0, 0)) (.cells ZA 125 (0, 0)) 125 (mcP s f (r + 1) 0) wr) := by
            show B3 _ _ _ _ _ _
            rw [← HPR.out r, ← hk4]; exact hM
          clear hM hk4
          go_wp2
          go_roundw
          case rel => exact ⟨r + 1, by omega, by go_num, HM1.out⟩
          case measure => simp [intOf]; omega
    · have hk' : r = 4 := by omega
      have hlt' : ¬ (r : Int) < 4 := by omega
      rw [hk'] at hM
      obtain ⟨h1, h2, h3, h4⟩ := hM
      rw [HPA.out] at h3
      obtain ⟨RS, hRS⟩ : ∃ RS, RS = ((mcA s f).map B8).toArray := ⟨_, rfl⟩
      have hr8 : RS.size = 4 := by rw [hRS]; simp [HLN.out]
      have HRI : Hid ((Tryz.prog.info? 125).map (·.size) = some RS.size) := info4 RS hr8
      have HR1 : Hid (RS.all (·.oneCell') = true) := by show _ = _; rw [hRS]; exact B8_onea _
      rw [← hRS] at h3
      have HT' : Hid _ := h3
      have HR : Hid _ := h2
      have HR8 : Hid (ZA.size = RS.size) := HZS.out.trans hr8.symm
      have HRS : Hid _ := hRS
      clear h1 h2 h3 hr8 hRS hk'
      go_wp2_with (first
        | (refine wpList_load_row rfl 125 _ rfl (w.heap.size + 1 + 1) rfl 125 _ (0, 0) _ HT'.out Tryz.underlying125 rfl HRI.out ?_)
        | (refine wpList_store_row rfl 125 _ _ rfl (w.heap.size + 1) _ rfl rfl 125 _ HR.out HRI.out HR8.out HR1.out ?_))
      refine bodyPost_ret (v := .agg RS) ?_ rfl ⟨by rw [HRS.out], below_setRow h4 (by omega) _⟩
      exact results_cell_row Tryz.results119 _ _ (w.heap.size + 1) 125 _ (0, 0) _ rfl (setRow_heap _ _ _ _ _ _ HR.out) Tryz.underlying125 rfl HRI.out

theorem pmixer_any (f : List UInt8) (w : World) :
    Calls Tryz.prog 104 #[.agg (f.map B8).toArray] w fun e w' => e = .returned (.func (.func 119) #[] #[.pointer (some ⟨w.heap.size, 0, none⟩)]) ∧ w' = w.alloc (.cells (f.map B8).toArray 125 (0, 0)) := by
  go_enter Tryz.func104, Tryz.ntmps104
  go_wp2
  go_ret
  exact ⟨rfl, rfl⟩

end Go.Proofs.YtbmmibmfjhehhaaGreat.AE

/- Contract of aes's mixed. -/
namespace Go.Proofs.YtbmmibmfjhehhaaGreat.AE
open Go.RowKit

def colA (s : List UInt8) (c : Nat) : List UInt8 := (s.drop (4 * c)).take 4
theorem colA_len (s : List UInt8) (c : Nat) (hs : s.length = 16) (hc : c < 4) : (colA s c).length = 4 := by unfold colA; simp [hs]; omega
def mdP (s f : List UInt8) (c : Nat) : List UInt8 := (List.range 16).map fun j => if j < 4 * c then mcS (colA s (j / 4)) f (j % 4) 4 else s.getD j 0
def mdA (s f : List UInt8) : List UInt8 := (List.range 16).map fun j => mcS (colA s (j / 4)) f (j % 4) 4
theorem mdP_len (s f : List UInt8) (c : Nat) : (mdP s f c).length = 16 := by unfold mdP; simp
theorem mdA_len (s f : List UInt8) : (mdA s f).length = 16 := by unfold mdA; simp
theorem mdP_all (s f : List UInt8) : mdP s f 4 = mdA s f := by
  unfold mdP mdA
  apply List.map_congr_left
  intro j hj
  have : j < 16 := List.mem_range.1 hj
  rw [if_pos (by omega)]
theorem mdP_start (s f : List UInt8) (hs : s.length = 16) : mdP s f 0 = s := by
  unfold mdP
  apply List.ext_getElem
  · simp [hs]
  · intro n h1 h2
    simp [List.getD, List.getElem?_eq_getElem h2]
theorem mdP_at (s f : List UInt8) (c n : Nat) (h : n < (mdP s f c).length) : (mdP s f c)[n] = if n < 4 * c then mcS (colA s (n / 4)) f (n % 4) 4 else s.getD n 0 := by simp [mdP]
theorem mcA_at (s f : List UInt8) (n : Nat) (h : n < (mcA s f).length) : (mcA s f)[n] = mcS s f n 4 := by simp [mcA]
theorem colA_at (s : List UInt8) (c n : Nat) (h : n < (colA s c).length) (h2 : 4 * c + n < s.length) : (colA s c)[n] = s[4 * c + n] := by simp [colA]
theorem mdP_col (s f : List UInt8) (c : Nat) (hs : s.length = 16) (hc : c < 4) : colA (mdP s f c) c = colA s c := by
  apply List.ext_getElem
  · rw [colA_len _ c (mdP_len s f c) hc, colA_len s c hs hc]
  · intro n h1 h2
    have h3 := h1
    rw [colA_len _ c (mdP_len s f c) hc] at h3
    have hb : 4 * c + n < s.length := by omega
    have hb2 : 4 * c + n < (mdP s f c).length := by rw [mdP_len]; omega
    rw [colA_at _ c n h1 hb2, colA_at s c n h2 hb, mdP_at, if_neg (by omega)]
    simp [List.getD, List.getElem?_eq_getElem hb]
theorem mdP_next (s f : List UInt8) (c : Nat) (hs : s.length = 16) (hc : c < 4) : splice ((mdP s f c).map B8) (4 * c) ((mcA (colA s c) f).map B8) = (mdP s f (c + 1)).map B8 := by
  have e : splice (mdP s f c) (4 * c) (mcA (colA s c) f) = mdP s f (c + 1) := by
    unfold splice
    have hl := mdP_len s f c
    have hm := mcA_len (colA s c) f
    apply List.ext_getElem
    · simp [hl, hm, mdP_len]; omega
    · intro n h1 h2
      have h2' := h2
      rw [mdP_len] at h2'
      rw [mdP_at]
      by_cases h3 : n < 4 * c
      · rw [List.getElem_append_left (by simp [hl]; omega), List.getElem_take, mdP_at, if_pos h3, if_pos (by omega)]
      · have ht : ((mdP s f c).take (4 * c)).length = 4 * c := by simp [hl]; omega
        rw [List.getElem_append_right (by omega)]
        by_cases h4 : n < 4 * c + 4
        · rw [List.getElem_append_left (by omega), mcA_at, if_pos (by omega), ht, show n / 4 = c by omega, show n % 4 = n - 4 * c by omega]
        · rw [List.getElem_append_right (by omega), List.getElem_drop, mdP_at, if_neg (by omega), if_neg (by omega)]
          congr 1
          omega
  rw [← e]
  unfold splice
  simp only [List.map_append, List.map_take, List.map_drop, List.length_map]
theorem colA_range {w : World} {b : Nat} {s : List UInt8} {ty : TypeId} {fr : Nat × Nat} (c : Nat) (h : w.heap[b]? = some (.cells (s.map B8).toArray ty fr)) : w.rangeAt b (4 * c) ((colA s c).map B8) := fun j v hv => by
  rw [cell_of_row _ _ (4 * c + j) _ _ _ h]
  unfold colA at hv
  simp only [List.getElem?_map, List.getElem?_take, List.getElem?_drop] at hv
  by_cases hj : j < 4
  · rw [if_pos hj] at hv
    simp only [List.getElem?_toArray, List.getElem?_map]
    exact hv
  · rw [if_neg hj] at hv; simp at hv
theorem sliceFrom16 (w : World) (b k : Nat) (hk : k < 16) : (Instr.sliceAt 86 (.pointer (some ⟨b, 0, none⟩)) (some (.int .i64 (k : Int))) none none).run Tryz.prog w = .ok (.slice (some ⟨b, k, none⟩) (16 - k) (16 - k)) w := by
  have ha : Tryz.prog.arrayLen 86 = 16 := by kernel_rfl
  have hu : Tryz.prog.underlying 86 = some (.array (Tryz.prog.arrayLen 86) (Tryz.prog.elem 86)) := by kernel_rfl
  have he : Tryz.prog.elem 86 = 5 := by kernel_rfl
  rw [run_sliceAt_array_l w 86 _ hu .i64 _ (by omega) (by rw [ha]; omega), he, size_u8, ha]
  have hne : 16 - k ≠ 0 := by omega
  have hadd : (⟨b, 0, none⟩ : Addr).add (k * 1) = ⟨b, k, none⟩ := by unfold Addr.add; split <;> simp_all
  have hadd' : (⟨b, 0, none⟩ : Addr).add k = ⟨b, k, none⟩ := by unfold Addr.add; split <;> simp_all
  simp [Result.andThen, slicedAt, hadd, hadd', hne]
  omega
theorem slice4 (w : World) (b : Nat) : (Instr.sliceAt 125 (.pointer (some ⟨b, 0, none⟩)) none none none).run Tryz.prog w = .ok (.slice (some ⟨b, 0, none⟩) 4 4) w := by
  have ha : Tryz.prog.arrayLen 125 = 4 := by kernel_rfl
  have hu : Tryz.prog.underlying 125 = some (.array (Tryz.prog.arrayLen 125) (Tryz.prog.elem 125)) := by kernel_rfl
  have he : Tryz.prog.elem 125 = 5 := by kernel_rfl
  rw [run_sliceAt_array_all w 125 _ hu, he, size_u8, ha]
  have hadd : (⟨b, 0, none⟩ : Addr).add (0 * 1) = ⟨b, 0, none⟩ := by unfold Addr.add; split <;> simp_all
  simp [Result.andThen, slicedAt, hadd]
theorem slArr4 (w : World) (a : Option Addr) (len cap : Nat) (h : 4 ≤ len) : (Instr.arrayAt 125 (.slice a len cap)).run Tryz.prog w = .ok (.pointer a) w := by
  have hn : ¬ len < 4 := by omega
  simp [Instr.arrayAt, run_underlying Tryz.underlying125, hn]

theorem wp_copy_seg7 {op : Oper} {a : Act} {w : World} {K : Act → World → Prop} {Q : Exit → Act → World → Prop} (d s : Operand) (ho : op.op = .call { callee := .builtin .copy, args := #[d, s], argTypes := #[64, 64] })
    (b o dLen dCap : Nat) (sp : Option Addr) (sLen sCap : Nat) (hd : a.eval d = .slice (some ⟨b, o, none⟩) dLen dCap) (hs : a.eval s = .slice sp sLen sCap) (cur : List Value) (t : TypeId) (hg : w.heap[b]? = some (.cells cur.toArray t (0, 0)))
    (cs : List Value) (hn : cs.length = Nat.min sLen dLen) (hpos : 0 < cs.length → ∃ ad, sp = some ad ∧ ∀ j v, cs[j]? = some v → w.cell? (ad.add j) = some v) (hfit : o + cs.length ≤ cur.length) (h1 : ∀ v ∈ cs, v.oneCell' = true)
    (h : K (a.put op.dst (goInt cs.length)) (w.setRow b (splice cur o cs).toArray)) : op.wp Tryz.prog a w K Q := by
  by_cases h0 : cs.length = 0
  · obtain rfl : cs = [] := List.eq_nil_of_length_eq_zero h0
    have hrun := run_copy_none (P := Tryz.prog) w 64 64 op.type 5 (some ⟨b, o, none⟩) sp dLen dCap sLen sCap Tryz.underlying64 (by kernel_rfl) (by simpa using hn.symm)
    have e : w.setRow b (splice cur o []).toArray = w := by
      have : splice cur o [] = cur := by simp [splice]
      rw [this]; exact setRow_self w b cur.toArray t (0, 0) hg
    rw [e] at h
    unfold Oper.wp
    simp [execOp, ho, resolve, invoke, builtin, hd, hs, hrun, Result.andThen]
    exact h
  · obtain ⟨ad, rfl, hsrc⟩ := hpos (by omega)
    have hrun := run_copy_row (P := Tryz.prog) w 64 64 op.type 5 b o dLen dCap ad sLen sCap cur.toArray t cs Tryz.underlying64 (by kernel_rfl) hg hn hsrc (by simpa using hfit) h1
    have e : (cur.toArray.toList.take o ++ cs ++ cur.toArray.toList.drop (o + cs.length)).toArray = (splice cur o cs).toArray := by simp [splice]
    rw [e] at hrun
    unfold Oper.wp
    simp [execOp, ho, resolve, invoke, builtin, hd, hs, hrun, Result.andThen]
    exact h

def M2 (w : World) (ZA : Array Value) (l : List UInt8) (wr : World) : Prop :=
  wr.heap[w.heap.size]? = some (.cells (l.map B8).toArray 86 (0, 0)) ∧ wr.heap[w.heap.size + 1]? = some (.cells ZA 86 (0, 0)) ∧ Below w.heap.size w wr ∧ w.heap.size + 2 ≤ wr.heap.size

set_option maxHeartbeats 4000000 in
set_option maxRecDepth 100000 in
theorem pmixed_any (s f : List UInt8) (b : Nat) (w : World) (hs : s.length = 16) (hf : f.length = 4) (hc : w.heap[b]? = some (.cells (f.map B8).toArray 125 (0, 0))) :
    Calls Tryz.prog 108 #[.agg (s.map B8).toArray, .func (.func 119) #[] #[.pointer (some ⟨b, 0, none⟩)]] w fun e w' => e = .returned (.agg ((mdA s f).map B8).toArray) ∧ Below w.heap.size w w' := by
  have hcl : b < w.heap.size := (Array.getElem?_eq_some_iff.1 hc).1
  have HMX : Hid (∀ l W, l.length = 4 → Below w.heap.size w W → Calls Tryz.prog 119 #[.agg (l.map B8).toArray, .pointer (some ⟨b, 0, none⟩)] W fun e w' => e = .returned (.agg ((mcA l f).map B8).toArray) ∧ Below W.heap.size W w') := fun l W hl hb => pmixer1_any l f b W hl hf ((hb.block b hcl).trans hc)
  have HCL : Hid _ := fun c hc => colA_len s c hs hc
  have HPC : Hid _ := fun c hc => mdP_col s f c hs hc
  have HPN : Hid _ := fun c hc => mdP_next s f c hs hc
  have HPL : Hid _ := fun c => mdP_len s f c
  have HPA : Hid _ := mdP_all s f
  have HLN : Hid _ := mdA_len s f
  have HP0 : Hid _ := mdP_start s f hs
  obtain ⟨SA, hSA⟩ : ∃ SA, SA = (s.map B8).toArray := ⟨_, rfl⟩
  obtain ⟨ZA, hZA⟩ : ∃ ZA : Array Value, ZA = Array.replicate 16 (.int .u8 0) := ⟨_, rfl⟩
  have HZS : Hid (ZA.size = 16) := by show _ = _; rw [hZA]; simp
  rw [← hSA]
  have HST : Hid (M2 w (Array.replicate 16 (.int .u8 0)) (mdP s f 0) ((w.alloc (.cells SA 86 (0, 0))).alloc (.cells (Array.replicate 16 (.int .u8 0)) 86 (0, 0)))) := by
    refine ⟨?_, heap_at _ _ _ (by simp), ((Below.refl _ _).alloc (Nat.le_refl _) _).alloc (by simp) _, by simp⟩
    rw [HP0.out, ← hSA]; exact alloc2_first _ _ _
  clear hs hf hSA hc
  go_enter Tryz.func108, Tryz.ntmps108
  go_wp2
  go_loopw [7] (fun i wr => ∃ c : Nat, c ≤ 4 ∧ i = .int .i64 c ∧ M2 w ZA (mdP s f c) wr) (fun i _ => 4 - (intOf i).toNat)
  case atStart => exact ⟨0, by omega, rfl, by rw [hZA]; exact HST.out⟩
  case round =>
    clear HST hZA
    obtain ⟨c, hc, rfl, hM⟩ := hrel
    by_cases hlt : c < 4
    · have hcI : (c : Int) < 4 := by omega
      have HRG : Hid _ := colA_range c hM.1
      rw [HPC.out c hlt] at HRG
      have HL4 : Hid _ := HCL.out c hlt
      have hmx := HMX.out (colA s c) wr HL4.out hM.2.2.1
      have hpn := HPN.out c hlt
      obtain ⟨CL, hCL⟩ : ∃ CL, CL = (colA s c).map B8 := ⟨_, rfl⟩
      have HIP : Hid ((Tryz.prog.info? 125).map (·.size) = some CL.length) := by show _ = _; rw [hCL, List.length_map, HL4.out]; kernel_rfl
      rw [← hCL] at HRG hmx
      have HM0 : Hid _ := hM
      have hsz := hM.2.2.2
      have q0 : IntKind.i64.wrap ((c : Int) * 4) = 4 * (c : Int) := by rw [wrap_i64_7 _ (by omega) (by omega)]; omega
      have hs16 := fun W => sliceFrom16 W w.heap.size (4 * c) (by omega)
      rw [show ((4 * c : Nat) : Int) = 4 * (c : Int) by omega] at hs16
      have hsa := fun W => slArr4 W (some ⟨w.heap.size, 4 * c, none⟩) (16 - 4 * c) (16 - 4 * c) (by omega)
      have hMC : (mcA (colA s c) f).length = 4 := mcA_len _ _
      generalize mcA (colA s c) f = MC at *
      obtain ⟨MA, hMA⟩ : ∃ MA, MA = (MC.map B8).toArray := ⟨_, rfl⟩
      have hM8 : MA.size = 4 := by rw [hMA]; simp [hMC]
      have HMI : Hid _ := info4 MA hM8
      have HM1 : Hid (MA.all (·.oneCell') = true) := by show _ = _; rw [hMA]; exact B8_onea _
      have HM8 : Hid _ := hM8
      have HPN1 : Hid (splice ((mdP s f c).map B8) (4 * c) MA.toList = (mdP s f (c + 1)).map B8) := by show _ = _; rw [hMA]; exact hpn
      rw [← hMA] at hmx
      clear hM hCL hMA hM8 hpn hMC
      go_wp2_with (first
        | (refine wpList_load_mid rfl 125 _ rfl w.heap.size (4 * c) rfl CL _ HRG.out Tryz.underlying125 rfl HIP.out ?_))
      refine hmx.mono ?_
      rintro e w2 ⟨rfl, hb2⟩
      have hsz2 : w.heap.size + 2 ≤ w2.heap.size := by have := hb2.size; omega
      have HB2 : Hid (Below w.heap.size w w2) := HM0.out.2.2.1.trans (hb2.mono (by omega))
      have HR1 : Hid (w2.heap[w.heap.size]? = some (.cells ((mdP s f c).map B8).toArray 86 (0, 0))) := (hb2.block _ (by omega)).trans HM0.out.1
      have HR2 : Hid (w2.heap[w.heap.size + 1]? = some (.cells ZA 86 (0, 0))) := (hb2.block _ (by omega)).trans HM0.out.2.1
      clear hb2 hmx HM0 HRG
      have hq : (w2.alloc (.cells #[.int .u8 0, .int .u8 0, .int .u8 0, .int .u8 0] 125 (0, 0))).heap[w2.heap.size]? = some (.cells #[.int .u8 0, .int .u8 0, .int .u8 0, .int .u8 0] 125 (0, 0)) := heap_at _ _ _ rfl
      have HQ : Hid _ := hq
      clear hq
      go_wp2_with (first
        | (refine wpList_store_row rfl 125 _ _ rfl w2.heap.size MA rfl rfl 125 _ HQ.out HMI.out (by rw [HM8.out]; rfl) HM1.out ?_))
      have HB3 : Hid (Below w2.heap.size w2 ((w2.alloc (.cells #[.int .u8 0, .int .u8 0, .int .u8 0, .int .u8 0] 125 (0, 0))).setRow w2.heap.size MA)) := below_setRow ((Below.refl _ _).alloc (Nat.le_refl _) _) (Nat.le_refl _) _
      have HQ3 : Hid (((w2.alloc (.cells #[.int .u8 0, .int .u8 0, .int .u8 0, .int .u8 0] 125 (0, 0))).setRow w2.heap.size MA).heap[w2.heap.size]? = some (.cells MA 125 (0, 0))) := setRow_heap _ _ _ _ _ _ HQ.out
      have HBW : Hid (Below w.heap.size w ((w2.alloc (.cells #[.int .u8 0, .int .u8 0, .int .u8 0, .int .u8 0] 125 (0, 0))).setRow w2.heap.size MA)) := HB2.out.trans (HB3.out.mono (by omega))
      have HR13 : Hid (((w2.alloc (.cells #[.int .u8 0, .int .u8 0, .int .u8 0, .int .u8 0] 125 (0, 0))).setRow w2.heap.size MA).heap[w.heap.size]? = some (.cells ((mdP s f c).map B8).toArray 86 (0, 0))) := (HB3.out.block _ (by omega)).trans HR1.out
      have HR23 : Hid (((w2.alloc (.cells #[.int .u8 0, .int .u8 0, .int .u8 0, .int .u8 0] 125 (0, 0))).setRow w2.heap.size MA).heap[w.heap.size + 1]? = some (.cells ZA 86 (0, 0))) := (HB3.out.block _ (by omega)).trans HR2.out
      have hsW : w2.heap.size < ((w2.alloc (.cells #[.int .u8 0, .int .u8 0, .int .u8 0, .int .u8 0] 125 (0, 0))).setRow w2.heap.size MA).heap.size := by simp
      have hs4 := fun W => slice4 W w2.heap.size
      clear HB3 HQ HR1 HR2 HB2
      generalize ((w2.alloc (.cells #[.int .u8 0, .int .u8 0, .int .u8 0, .int .u8 0] 125 (0, 0))).setRow w2.heap.size MA) = W at *
      generalize w2.heap.size = g at *
      refine wp_region_held_drew (S := fun w' => Below w.heap.size w w') (by kernel_rfl) HBW.out.drew (fun hHeld => ?_)
      refine wpAnyH_take (i := 0) (oi := ⟨some 17, .move (.tmp 5), 3, _, #[], none⟩) (v := .int .i64 (c : Int)) rfl (by kernel_rfl) (by kernel_rfl) (by kernel_rfl) (fun _ _ _ h => h) (Or.inl ⟨by rfl, fun w' hw' => ?_⟩) hHeld ?_
      · first | (go_simp; done) | (go_simp; rfl)
      try simp only [Act.put, qT, q0, qS]
      refine wpAnyH_take (i := 1) (oi := ⟨some 18, .binOp .mul 3 (.tmp 17) (.const (Go.Value.int Go.IntKind.i64 4)) 3, 3, _, #[⟨0, .data⟩], none⟩) (v := .int .i64 (4 * (c : Int))) rfl (by kernel_rfl) (by kernel_rfl) (by kernel_rfl) (fun _ _ _ h => h) (Or.inl ⟨by rfl, fun w' hw' => ?_⟩) hHeld ?_
      · first | (go_simp; done) | (go_simp; rfl)
      try simp only [Act.put, qT, q0, qS]
      refine wpAnyH_take (i := 2) (oi := ⟨some 19, .slice 86 (.tmp 2) (some (.tmp 18)) none none, 64, _, #[⟨1, .data⟩], none⟩) (v := .slice (some ⟨w.heap.size, 4 * c, none⟩) (16 - 4 * c) (16 - 4 * c)) rfl (by kernel_rfl) (by kernel_rfl) (by kernel_rfl) (fun _ _ _ h => h) (Or.inl ⟨by rfl, fun w' hw' => ?_⟩) hHeld ?_
      · first | (go_simp; done) | (go_simp; rfl)
      try simp only [Act.put, qT, q0, qS]
      refine wpAnyH_take (i := 3) (oi := ⟨some 20, .slice 125 (.tmp 6) none none none, 64, _, #[], none⟩) (v := .slice (some ⟨g, 0, none⟩) 4 4) rfl (by kernel_rfl) (by kernel_rfl) (by kernel_rfl) (fun _ _ _ h => h) (Or.inl ⟨by rfl, fun w' hw' => ?_⟩) hHeld ?_
      · first | (go_simp; done) | (go_simp; rfl)
      try simp only [Act.put, qT, q0, qS]
      refine wpAnyH_ready (rs := [4]) (by kernel_rfl) (by simp) ?_
      refine AllReadyH.cons (o := { dst := some 21, op := .call { callee := Go.Callee.builtin Go.Builtin.copy, args := #[.tmp 19, .tmp 20], argTypes := #[64, 64] }, type := 3, pos := _, after := #[⟨2, .data⟩, ⟨3, .data⟩], guard := none }) rfl (fun K hK => ?_) AllReadyH.nil
      rw [if_pos (by rfl)]
      refine wp_copy_seg7 (.tmp 19) (.tmp 20) rfl w.heap.size (4 * c) (16 - 4 * c) (16 - 4 * c) (some ⟨g, 0, none⟩) 4 4 rfl rfl ((mdP s f c).map B8) 86 HR13.out MA.toList ?_ ?_ ?_ ?_ ?_
      · rw [Array.length_toList, HM8.out]; exact (Nat.min_eq_left (by omega)).symm
      · intro _
        refine ⟨_, rfl, fun j v hv => ?_⟩
        have e : (⟨g, 0, none⟩ : Addr).add j = ⟨g, j, none⟩ := by unfold Addr.add; split <;> simp_all
        rw [e]
        show W.cell? _ = _
        rw [cell_of_row _ _ j _ _ _ HQ3.out]; simpa using hv
      · rw [Array.length_toList, HM8.out, List.length_map, HPL.out]; omega
      · intro v hv
        have := HM1.out
        rw [Array.all_eq_true_iff_forall_mem] at this
        exact this v (by simpa using hv)
      rw [HPN1.out]
      have hHeld2 := below_setRow hHeld (Nat.le_refl w.heap.size) ((mdP s f (c + 1)).map B8).toArray
      refine hK.out _ _ hHeld2 (fun _ => ?_)
      clear hK K
      try simp only [Act.put, qT, q0, qS]
      refine wpAnyH_done (by kernel_rfl) ?_ _
      have HM2 : Hid (M2 w ZA (mdP s f (c + 1)) (W.drew.setRow w.heap.size ((mdP s f (c + 1)).map B8).toArray)) := by
        refine ⟨setRow_heap _ _ _ _ _ _ HR13.out, ?_, hHeld2, by simp; omega⟩
        rw [setRow_other _ _ _ _ (by omega)]; exact HR23.out
      clear hHeld hHeld2 HR13 HR23 HQ3 HBW
      go_wp2
      go_roundw
      case rel => exact ⟨c + 1, by omega, by go_num, HM2.out⟩
      case measure => simp [intOf]; omega
    · have hk' : c = 4 := by omega
      have hlt' : ¬ (c : Int) < 4 := by omega
      rw [hk'] at hM
      obtain ⟨h1, h2, h4, h5⟩ := hM
      rw [HPA.out] at h1
      obtain ⟨RS, hRS⟩ : ∃ RS, RS = ((mdA s f).map B8).toArray := ⟨_, rfl⟩
      have hr8 : RS.size = 16 := by rw [hRS]; simp [HLN.out]
      have HRI : Hid ((Tryz.prog.info? 86).map (·.size) = some RS.size) := info16 RS hr8
      have HR1 : Hid (RS.all (·.oneCell') = true) := by show _ = _; rw [hRS]; exact B8_onea _
      rw [← hRS] at h1
      have HT' : Hid _ := h1
      have HR : Hid _ := h2
      have HR8 : Hid (ZA.size = RS.size) := HZS.out.trans hr8.symm
      have HRS : Hid _ := hRS
      clear h1 h2 hr8 hRS hk'
      go_wp2_with (first
        | (refine wpList_load_row rfl 86 _ rfl (w.heap.size) rfl 86 _ (0, 0) _ HT'.out Tryz.underlying86 rfl HRI.out ?_)
        | (refine wpList_store_row rfl 86 _ _ rfl (w.heap.size + 1) _ rfl rfl 86 _ HR.out HRI.out HR8.out HR1.out ?_))
      refine bodyPost_ret (v := .agg RS) ?_ rfl ⟨by rw [HRS.out], below_setRow h4 (by omega) _⟩
      exact results_cell_row Tryz.results108 _ _ (w.heap.size + 1) 86 _ (0, 0) _ rfl (setRow_heap _ _ _ _ _ _ HR.out) Tryz.underlying86 rfl HRI.out

end Go.Proofs.YtbmmibmfjhehhaaGreat.AE

/- Mathematics of ref 4's Expand: the 176 bytes. -/
namespace Go.Proofs.YtbmmibmfjhehhaaGreat.AE
open Go.RowKit

def pwA : Nat → UInt8
  | 0 => 1
  | n + 1 => tmA (pwA n) 2
def exT (t p : List UInt8) (n : Nat) : List UInt8 :=
  if n % 4 = 0 then [t.getD (p.getD (4 * (n + 3) + 1) 0).toNat 0 ^^^ pwA (n / 4), t.getD (p.getD (4 * (n + 3) + 2) 0).toNat 0, t.getD (p.getD (4 * (n + 3) + 3) 0).toNat 0, t.getD (p.getD (4 * (n + 3)) 0).toNat 0]
  else [p.getD (4 * (n + 3)) 0, p.getD (4 * (n + 3) + 1) 0, p.getD (4 * (n + 3) + 2) 0, p.getD (4 * (n + 3) + 3) 0]
def exN (t p : List UInt8) (n : Nat) : List UInt8 := (List.range 4).map fun k => p.getD (4 * n + k) 0 ^^^ (exT t p n).getD k 0
def exL (key t : List UInt8) : Nat → List UInt8
  | 0 => key
  | n + 1 => exL key t n ++ exN t (exL key t n) n
def exA (key t : List UInt8) : List UInt8 := exL key t 40
theorem exL_len (key t : List UInt8) (n : Nat) (h : key.length = 16) : (exL key t n).length = 16 + 4 * n := by
  induction n with
  | zero => exact h
  | succ n ih => unfold exL; rw [List.length_append, ih]; unfold exN; simp; omega
theorem exA_len (key t : List UInt8) (h : key.length = 16) : (exA key t).length = 176 := exL_len key t 40 h
theorem exL_pre (key t : List UInt8) (n d j : Nat) (h : key.length = 16) (hj : j < 16 + 4 * n) : (exL key t (n + d)).getD j 0 = (exL key t n).getD j 0 := by
  induction d with
  | zero => rfl
  | succ d ih =>
    rw [← ih]
    show (exL key t (n + d) ++ exN t (exL key t (n + d)) (n + d)).getD j 0 = _
    rw [List.getD, List.getElem?_append_left (by rw [exL_len key t (n + d) h]; omega), List.getD]
theorem exA_pre (key t : List UInt8) (n j : Nat) (h : key.length = 16) (hn : n ≤ 40) (hj : j < 16 + 4 * n) : (exA key t).getD j 0 = (exL key t n).getD j 0 := by
  have := exL_pre key t n (40 - n) j h hj
  rw [show n + (40 - n) = 40 by omega] at this
  exact this
theorem exA_key (key t : List UInt8) (j : Nat) (h : key.length = 16) (hj : j < 16) : (exA key t).getD j 0 = key.getD j 0 := exA_pre key t 0 j h (by omega) (by omega)
theorem exT_A (key t : List UInt8) (n : Nat) (h : key.length = 16) (hn : n < 40) : exT t (exL key t n) n = exT t (exA key t) n := by
  unfold exT
  rw [exA_pre key t n (4 * (n + 3)) h (by omega) (by omega), exA_pre key t n (4 * (n + 3) + 1) h (by omega) (by omega), exA_pre key t n (4 * (n + 3) + 2) h (by omega) (by omega), exA_pre key t n (4 * (n + 3) + 3) h (by omega) (by omega)]
theorem exA_step (key t : List UInt8) (n k : Nat) (h : key.length = 16) (hn : n < 40) (hk : k < 4) :
    (exA key t).getD (16 + 4 * n + k) 0 = (exA key t).getD (4 * n + k) 0 ^^^ (exT t (exA key t) n).getD k 0 := by
  rw [exA_pre key t (n + 1) (16 + 4 * n + k) h (by omega) (by omega)]
  show (exL key t n ++ exN t (exL key t n) n).getD (16 + 4 * n + k) 0 = _
  have hl := exL_len key t n h
  rw [List.getD, List.getElem?_append_right (by omega), hl, show 16 + 4 * n + k - (16 + 4 * n) = k by omega]
  rw [← exT_A key t n h hn, exA_pre key t n (4 * n + k) h (by omega) (by omega)]
  unfold exN
  rw [List.getElem?_map, List.getElem?_range hk]
  rfl
theorem bpart_old (n : Nat) (T : List UInt8) (k j : Nat) (hT : T.length = n) (hk : k ≤ n) (hj : j < k) : (bpart n T k).getD j 0 = T.getD j 0 := by
  unfold bpart
  rw [List.getD, List.getElem?_append_left (by simp; omega), List.getElem?_take_of_lt hj, List.getD]

end Go.Proofs.YtbmmibmfjhehhaaGreat.AE
