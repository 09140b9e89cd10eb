/- Contracts of mac's Tag and its closure. -/
import Derived.Test.YtbmgfllilcdgcaaA5
import Derived.Laws.BitsAllLaws
set_option linter.unusedVariables false
set_option linter.unusedSimpArgs false
namespace Go.Proofs.Ytbmgfllilcdgcaa
open Go.RowKit

theorem HB.ofRow {W : World} {b : Nat} {l : List UInt8} {t : TypeId} {fr : Nat × Nat} (k : Nat) (hk : k = l.length) (hl : l.length ≤ 1099511627776) (h : W.heap[b]? = some (.cells (l.map B8).toArray t fr)) : HB W (.slice (some ⟨b, 0, none⟩) k k) l := by
  subst hk
  refine .inr ⟨_, 0, _, rfl, Nat.le_refl _, by unfold maxLen; omega, fun i hi => ?_⟩
  rw [Nat.zero_add, cell_of_row _ _ i _ _ _ h]
  simp [B8, List.getD, List.getElem?_eq_getElem hi]
/-- A row of which the first k bytes are mixed. -/
def mixP (kb : List UInt8) (p : UInt8) (k : Nat) : List UInt8 := (kb.map (· ^^^ p)).take k ++ kb.drop k
theorem mixP_zero (kb : List UInt8) (p : UInt8) : mixP kb p 0 = kb := by unfold mixP; simp
theorem mixP_all (kb : List UInt8) (p : UInt8) (n : Nat) (h : kb.length = n) : mixP kb p n = kb.map (· ^^^ p) := by unfold mixP; subst h; rw [List.take_of_length_le (by simp), List.drop_length, List.append_nil]
theorem mixP_len (kb : List UInt8) (p : UInt8) (k : Nat) (h : k ≤ kb.length) : (mixP kb p k).length = kb.length := by unfold mixP; simp; omega
theorem mixP_get (kb : List UInt8) (p : UInt8) (k : Nat) (h : k < kb.length) : ((mixP kb p k).map B8).toArray[k]? = some (.int .u8 ((kb.getD k 0).toNat : Int)) := by
  unfold mixP
  simp only [List.getElem?_toArray, List.getElem?_map]
  rw [List.getElem?_append_right (by simp; omega)]
  simp [Nat.min_eq_left (Nat.le_of_lt h), B8, List.getD, List.getElem?_eq_getElem h]
theorem mixP_set (kb : List UInt8) (p : UInt8) (k : Nat) (h : k < kb.length) : ((mixP kb p k).map B8).toArray.setIfInBounds k (B8 (kb.getD k 0 ^^^ p)) = ((mixP kb p (k + 1)).map B8).toArray := by
  have e : (mixP kb p k).set k (kb.getD k 0 ^^^ p) = mixP kb p (k + 1) := by
    unfold mixP
    rw [List.set_append_right _ _ (by simp; omega)]
    have h0 : k - ((kb.map (· ^^^ p)).take k).length = 0 := by simp; omega
    have hg : kb.getD k 0 = kb[k] := by simp [List.getD, List.getElem?_eq_getElem h]
    rw [h0, hg, List.drop_eq_getElem_cons h, List.set_cons_zero, List.take_succ_eq_append_getElem (by simpa using h), List.getElem_map, List.append_assoc, List.singleton_append]
  rw [List.setIfInBounds_toArray, ← List.map_set, e]
theorem xor_u8 (x p : UInt8) : bits .xor .u8 (x.toNat : Int) (p.toNat : Int) = (((x ^^^ p).toNat : Nat) : Int) := by
  rw [u8_xor_nat _ _ (by have := x.toNat_lt; omega) (by have := p.toNat_lt; omega)]
  simp

set_option maxHeartbeats 4000000 in
set_option maxRecDepth 100000 in
theorem round_any (p : UInt8) (pd : Int) (hpd : pd = (p.toNat : Int)) (v : Value) (l : List UInt8) (c : Nat) (kb : List UInt8) (w : World) (hk : kb.length = 64) (hr : l.length ≤ 4294967000) (hc : w.heap[c]? = some (.cells (kb.map B8).toArray 102 (0, 0))) (h : HB w v l) :
    Calls Try.prog 53 #[.int .u8 pd, v, .pointer (some ⟨c, 0, none⟩)] w fun e w' => e = .returned (.agg ((shaL (kb.map (· ^^^ p) ++ l)).map B8).toArray) ∧ Below w.heap.size w w' := by
  have hcl : c < w.heap.size := (Array.getElem?_eq_some_iff.1 hc).1
  obtain ⟨KA, hKA⟩ : ∃ KA, KA = (kb.map B8).toArray := ⟨_, rfl⟩
  rw [← hKA] at hc
  have hks : KA.size = 64 := by rw [hKA]; simp [hk]
  have HIK : Hid ((Try.prog.info? 102).map (·.size) = some KA.size) := by show _ = _; rw [hks]; kernel_rfl
  have HK1 : Hid (KA.all (·.oneCell') = true) := by show _ = _; rw [hKA]; exact B8_onea _
  have HKS : Hid ((64 : Nat) = KA.size) := hks.symm
  have HC : Hid _ := hc
  have HKA : Hid (KA = ((mixP kb p 0).map B8).toArray) := by show _ = _; rw [mixP_zero]; exact hKA
  have hrs : ((shaL (kb.map (· ^^^ p) ++ l)).map B8).toArray.size = 32 := by simp [shaL_len]
  obtain ⟨RS, hRS⟩ : ∃ RS, RS = ((shaL (kb.map (· ^^^ p) ++ l)).map B8).toArray := ⟨_, rfl⟩
  have hsum := fun v W hW => shaSum_any v (kb.map (· ^^^ p) ++ l) W (by simp; omega) hW
  rw [← hRS] at hrs hsum ⊢
  have HRI : Hid ((Try.prog.info? 23).map (·.size) = some RS.size) := by show _ = _; rw [hrs]; kernel_rfl
  have HR1 : Hid (RS.all (·.oneCell') = true) := by show _ = _; rw [hRS]; exact B8_onea _
  have HRS : Hid ((32 : Nat) = RS.size) := hrs.symm
  have HV : Hid _ := h
  obtain ⟨pv, capv, rfl, _⟩ := h.cells
  have hx := fun x : UInt8 => xor_u8 x p
  rw [← hpd] at hx
  have hsB := fun W => sliceBlk W (w.heap.size + 1)
  clear hKA hks hc hRS hrs h hpd
  go_enter Try.func53, Try.ntmps53
  go_wp2_with (first
    | (refine wpList_load_row rfl 102 _ rfl c rfl 102 KA (0, 0) _ (by rw [Below.heap_alloc _ _ _ hcl]; exact HC.out) Try.underlying102 rfl HIK.out ?_)
    | (refine wpList_store_row rfl 102 _ _ rfl (w.heap.size + 1) KA rfl rfl 102 _ (heap_alloc2_new _ _ _) HIK.out HKS.out HK1.out ?_))
  go_loopw [9] (fun i wr => ∃ k : Nat, k ≤ 64 ∧ i = .int .i64 k ∧ wr.heap[w.heap.size + 1]? = some (.cells ((mixP kb p k).map B8).toArray 102 (0, 0)) ∧ wr.heap[w.heap.size]? = some (.cells (List.replicate 32 (Value.int .u8 0)).toArray 23 (0, 0)) ∧ Below w.heap.size w wr) (fun i _ => 64 - (intOf i).toNat)
  case atStart =>
    refine ⟨0, by omega, rfl, ?_, ?_, below_setRow (((Below.refl _ _).alloc (Nat.le_refl _) _).alloc (by simp) _) (by omega) _⟩
    · rw [← HKA.out]; exact setRow_heap _ _ _ _ _ _ (heap_alloc2_new _ _ _)
    · rw [setRow_other _ _ _ _ (by omega)]; exact alloc2_first _ _ _
  case round =>
    obtain ⟨k, hk64, rfl, hT, hR, hbel⟩ := hrel
    have HT : Hid _ := hT
    have HR : Hid _ := hR
    have hsz : w.heap.size + 1 < wr.heap.size := (Array.getElem?_eq_some_iff.1 hT).1
    by_cases hlt : k < 64
    · have hcu := (cell_of_row _ _ k _ _ _ hT).trans (mixP_get kb p k (by omega))
      have hfu := frozen_of_row _ _ k _ _ hT
      have HSET : Hid _ := mixP_set kb p k (by omega)
      have hxx := hx (kb.getD k 0)
      have HX : Hid (B8 (kb.getD k 0 ^^^ p) = .int .u8 (((kb.getD k 0 ^^^ p).toNat : Nat) : Int)) := rfl
      generalize kb.getD k 0 ^^^ p = y at *
      generalize kb.getD k 0 = x at *
      clear hT hR hx
      go_wp2
      go_roundw
      case rel =>
        refine ⟨k + 1, by omega, by go_num, ?_, ?_, hbel.setCell (p := ⟨w.heap.size + 1, k, none⟩) (by simp) _⟩
        · rw [← HSET.out, HX.out]; exact heap_setCell_same _ (w.heap.size + 1) k _ 102 _ HT.out
        · rw [heap_setCell_other _ _ _ _ (by simp)]; exact HR.out
      case measure => simp [intOf]; omega
    · have hk' : k = 64 := by omega
      subst hk'
      rw [mixP_all kb p 64 hk] at hT
      have HM : Hid _ := HB.ofRow 64 (by simp [hk]) (by simp [hk]) hT
      have HVr : Hid _ := HB.below HV.out hbel
      have hfl : [kb.map (· ^^^ p), l].flatten.length ≤ 1099511627776 := by simp [hk]; omega
      have HFE : Hid (kb.map (· ^^^ p) ++ l = [kb.map (· ^^^ p), l].flatten) := by show _ = _; simp
      have HFL : Hid _ := hfl
      clear hT hR HT hfl hx
      go_wp2_with fail
      refine (join_any _ _ [kb.map (· ^^^ p), l] _ (by simp) HFL.out (two_cells _ _ _ _ _ _ rfl (HB.alloc HM.out _) (HB.alloc HVr.out _))).mono ?_
      rintro e wj ⟨vj, rfl, hfJ, hbJ⟩
      have HJ : Hid (HB wj vj (kb.map (· ^^^ p) ++ l)) := by rw [HFE.out]; exact hfJ.hb
      have hsj := hbJ.size
      have HRj : Hid _ := (hbJ.block w.heap.size (by simp; omega)).trans ((Below.heap_alloc _ _ _ (by omega)).trans HR.out)
      have hbwj : Below w.heap.size w wj := (hbel.alloc (by omega) _).trans (hbJ.mono (by simp; omega))
      clear hfJ hbJ
      go_wp2_with fail
      refine (hsum _ _ HJ.out).mono ?_
      rintro e w5 ⟨rfl, hb5⟩
      have HR5 : Hid _ := (hb5.block w.heap.size (by simp at hsj; omega)).trans HRj.out
      have hbw5 : Below w.heap.size w w5 := hbwj.trans (hb5.mono hbwj.size)
      clear hb5
      go_wp2_with (refine wpList_store_row rfl 23 _ _ rfl w.heap.size RS rfl rfl 23 _ HR5.out HRI.out HRS.out HR1.out ?_)
      refine bodyPost_ret (v := .agg RS) ?_ rfl ⟨rfl, below_setRow hbw5 (Nat.le_refl _) _⟩
      exact results_cell_row Try.results53 _ _ w.heap.size 23 _ (0, 0) _ rfl (setRow_heap _ _ _ _ _ _ HR5.out) Try.underlying23 rfl HRI.out

set_option maxHeartbeats 4000000 in
set_option maxRecDepth 100000 in
theorem tag_any (kv bv : Value) (key b : List UInt8) (w : World) (hrk : key.length ≤ 4294967000) (hrb : b.length ≤ 4294967000) (hk : HB w kv key) (hb : HB w bv b) :
    Calls Try.prog 42 #[kv, bv] w fun e w' => e = .returned (.agg ((macL key b).map B8).toArray) ∧ Below w.heap.size w w' := by
  have hkb := fun W hW => keyBlock_any kv key W (by omega) hW
  have hkl := kblk_len key
  have hr1 := fun v l c W hl hc hv => round_any 54 54 rfl v l c (kblk key) W hkl hl hc hv
  have hr2 := fun v l c W hl hc hv => round_any 92 92 rfl v l c (kblk key) W hkl hl hc hv
  obtain ⟨RS, hRS⟩ : ∃ RS, RS = ((macL key b).map B8).toArray := ⟨_, rfl⟩
  have hmac : macL key b = shaL ((kblk key).map (· ^^^ 92) ++ shaL ((kblk key).map (· ^^^ 54) ++ b)) := rfl
  obtain ⟨D1, hD1⟩ : ∃ D1, D1 = shaL ((kblk key).map (· ^^^ 54) ++ b) := ⟨_, rfl⟩
  rw [← hD1] at hmac
  have h1 := fun c W hc hv => hr1 bv b c W (by omega) hc hv
  have hd32 : D1.length = 32 := by rw [hD1]; exact shaL_len _
  have h2 := fun v c W hc hv => hr2 v D1 c W (by omega) hc hv
  rw [← hD1] at h1
  rw [← hmac, ← hRS] at h2
  rw [← hRS]
  have hrs : RS.size = 32 := by rw [hRS]; simp [macL_len]
  have HRI : Hid ((Try.prog.info? 23).map (·.size) = some RS.size) := by show _ = _; rw [hrs]; kernel_rfl
  have HR1 : Hid (RS.all (·.oneCell') = true) := by show _ = _; rw [hRS]; exact B8_onea _
  have HRS : Hid ((32 : Nat) = RS.size) := hrs.symm
  obtain ⟨DA, hDA⟩ : ∃ DA, DA = (D1.map B8).toArray := ⟨_, rfl⟩
  rw [← hDA] at h1
  have hds : DA.size = 32 := by rw [hDA]; simp [hd32]
  have HDI : Hid ((Try.prog.info? 23).map (·.size) = some DA.size) := by show _ = _; rw [hds]; kernel_rfl
  have HD1 : Hid (DA.all (·.oneCell') = true) := by show _ = _; rw [hDA]; exact B8_onea _
  have HDS : Hid ((32 : Nat) = DA.size) := hds.symm
  have HDA : Hid _ := hDA
  have HD32 : Hid _ := hd32
  obtain ⟨KA, hKA⟩ : ∃ KA, KA = ((kblk key).map B8).toArray := ⟨_, rfl⟩
  rw [← hKA] at hkb h1 h2
  have hks : KA.size = 64 := by rw [hKA]; simp [hkl]
  have HIK : Hid ((Try.prog.info? 102).map (·.size) = some KA.size) := by show _ = _; rw [hks]; kernel_rfl
  have HK1 : Hid (KA.all (·.oneCell') = true) := by show _ = _; rw [hKA]; exact B8_onea _
  have HKS : Hid ((64 : Nat) = KA.size) := hks.symm
  have HKV : Hid _ := hk
  have HBV : Hid _ := hb
  obtain ⟨pk, capk, rfl, _⟩ := hk.cells
  obtain ⟨pb, capb, rfl, _⟩ := hb.cells
  clear hr1 hr2 hmac hD1 hRS hrs hDA hds hKA hks hk hb hd32 hkl
  go_enter Try.func42, Try.ntmps42
  go_wp2_with fail
  refine (hkb _ (HB.alloc HKV.out _)).mono ?_
  rintro e w1 ⟨rfl, hb1⟩
  have hs1 : w.heap.size + 1 ≤ w1.heap.size := by have := hb1.size; simpa using this
  have G1 : Hid _ := below_blk hb1 (i := w.heap.size) (by simp) (heap_alloc_new _ _)
  have hbw1 : Below w.heap.size w w1 := ((Below.refl _ _).alloc (Nat.le_refl _) _).trans (hb1.mono (by simp))
  have HB1 : Hid _ := HB.below HBV.out hbw1
  clear hb1 hkb
  go_wp2_with (refine wpList_store_row rfl 102 _ _ rfl w1.heap.size KA rfl rfl 102 _ (heap_alloc_new _ _) HIK.out HKS.out HK1.out ?_)
  refine (h1 w1.heap.size _ (setRow_heap _ _ _ _ _ _ (heap_alloc_new _ _)) ?_).mono ?_
  · exact HB.below HB1.out (below_setRow ((Below.refl _ _).alloc (Nat.le_refl _) _) (Nat.le_refl _) _)
  rintro e w2 ⟨rfl, hb2⟩
  have hs2 : w1.heap.size + 1 ≤ w2.heap.size := by have := hb2.size; simpa using this
  have GC : Hid _ := (hb2.block w1.heap.size (by simp)).trans (setRow_heap _ _ _ _ _ _ (heap_alloc_new _ _))
  have G2 : Hid _ := (hb2.block w.heap.size (by simp; omega)).trans ((setRow_other _ _ _ _ (by omega)).trans ((Below.heap_alloc _ _ _ (by omega)).trans G1.out))
  have hbw2 : Below w.heap.size w w2 := (below_setRow (hbw1.alloc (by omega) _) (by omega) _).trans (hb2.mono (by simp; omega))
  have hsD := fun W => sliceDig W w2.heap.size
  clear hb2 h1 hbw1 HB1 G1
  go_wp2_with (refine wpList_store_row rfl 23 _ _ rfl w2.heap.size DA rfl rfl 23 _ (heap_alloc_new _ _) HDI.out HDS.out HD1.out ?_)
  refine (h2 _ w1.heap.size _ ?_ ?_).mono ?_
  · rw [setRow_other _ _ _ _ (by omega), Below.heap_alloc _ _ _ (by omega)]; exact GC.out
  · exact HB.ofRow 32 HD32.out.symm (by rw [HD32.out]; decide) (by rw [← HDA.out]; exact setRow_heap _ _ _ _ _ _ (heap_alloc_new _ _))
  rintro e w3 ⟨rfl, hb3⟩
  have hs3 : w2.heap.size + 1 ≤ w3.heap.size := by have := hb3.size; simpa using this
  have G3 : Hid _ := (hb3.block w.heap.size (by simp; omega)).trans ((setRow_other _ _ _ _ (by omega)).trans ((Below.heap_alloc _ _ _ (by omega)).trans G2.out))
  have hbw3 : Below w.heap.size w w3 := (below_setRow (hbw2.alloc (by omega) _) (by omega) _).trans (hb3.mono (by simp; omega))
  clear hb3 h2 hbw2 G2
  go_wp2_with (refine wpList_store_row rfl 23 _ _ rfl w.heap.size RS rfl rfl 23 _ G3.out HRI.out HRS.out HR1.out ?_)
  refine bodyPost_ret (v := .agg RS) ?_ rfl ⟨rfl, below_setRow hbw3 (Nat.le_refl _) _⟩
  exact results_cell_row Try.results42 _ _ w.heap.size 23 _ (0, 0) _ rfl (setRow_heap _ _ _ _ _ _ G3.out) Try.underlying23 rfl HRI.out

end Go.Proofs.Ytbmgfllilcdgcaa
