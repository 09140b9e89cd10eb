/- Several texts in one. -/
import Derived.Test.YtpmknkagnkagpaaGreatWh
import Derived.Lib.LazyBuf
import Derived.Test.YtpmknkagnkagpaaGreatY4
import Derived.Laws.BitsAllLaws
set_option linter.unusedVariables false
set_option linter.unusedSimpArgs false
/- Contract of the reference's Hex. -/
namespace Go.Proofs.YtpmknkagnkagpaaGreat
open Go.RowKit

end Go.Proofs.YtpmknkagnkagpaaGreat

/- Contract of wire's Unhex. -/
namespace Go.Proofs.YtpmknkagnkagpaaGreat
open Go.RowKit


end Go.Proofs.YtpmknkagnkagpaaGreat

/- Contracts of slices.Clone at bytes, and of wire's piece. -/
namespace Go.Proofs.YtpmknkagnkagpaaGreat
open Go.RowKit

theorem HB.cells {w : World} {v : Value} {l : List UInt8} (h : HB w v l) : ∃ p cap, v = .slice p l.length cap ∧ (p = none → l = [] ∧ cap = 0) ∧ (∀ a, p = some a → ∀ (j : Nat) u, (l.map B8)[j]? = some u → w.cell? (a.add j) = some u) := by
  rcases h with ⟨rfl, p, cap, rfl, hpc⟩ | ⟨b, o, cap, rfl, _, _, hc⟩
  · exact ⟨p, cap, rfl, fun h => ⟨rfl, hpc h⟩, fun a _ j u hu => by simp at hu⟩
  · refine ⟨_, cap, rfl, fun h => by simp at h, fun a ha j u hu => ?_⟩
    simp only [Option.some.injEq] at ha
    subst ha
    have hj : j < l.length := by
      have := (List.getElem?_eq_some_iff.1 hu).1
      simpa using this
    have hadd : (⟨b, o, none⟩ : Addr).add j = ⟨b, o + j, none⟩ := by unfold Addr.add; split <;> simp_all
    rw [hadd, hc j hj]
    rw [List.getElem?_map, List.getElem?_eq_getElem hj] at hu
    simp only [Option.map_some, Option.some.injEq] at hu
    rw [← hu]
    simp [B8, List.getD, List.getElem?_eq_getElem hj]

theorem B8_one (l : List UInt8) : ∀ u ∈ l.map B8, u.oneCell' = true := by
  intro u hu
  obtain ⟨x, _, rfl⟩ := List.mem_map.1 hu
  rfl

theorem cell_alloc_keep {w : World} {a : Addr} {u : Value} (o : Obj) (h : w.cell? a = some u) : (w.alloc o).cell? a = some u := by
  rw [World.cell?_of_block (w := w) (Below.heap_alloc w o a.block (block_lt h))]; exact h



end Go.Proofs.YtpmknkagnkagpaaGreat

/- Contracts of mac's keyBlock, Tag and its closure. -/
namespace Go.Proofs.YtpmknkagnkagpaaGreat
open Go.RowKit

theorem shaL_len (l : List UInt8) : (shaL l).length = 32 := dig8_len _
def keyL (key : List UInt8) : List UInt8 := if 64 < key.length then shaL key else key
theorem keyL_len (key : List UInt8) : (keyL key).length ≤ 64 := by
  unfold keyL; split
  · rw [shaL_len]; decide
  · omega
def kblk (key : List UInt8) : List UInt8 := keyL key ++ List.replicate (64 - (keyL key).length) 0
theorem kblk_len (key : List UInt8) : (kblk key).length = 64 := by
  have := keyL_len key
  unfold kblk; simp; omega
def macL (key b : List UInt8) : List UInt8 := shaL ((kblk key).map (· ^^^ 92) ++ shaL ((kblk key).map (· ^^^ 54) ++ b))
theorem macL_len (key b : List UInt8) : (macL key b).length = 32 := shaL_len _

theorem sliceDig (w : World) (b : Nat) : (Instr.sliceAt 24 (.pointer (some ⟨b, 0, none⟩)) none none none).run Tryz.prog w = .ok (.slice (some ⟨b, 0, none⟩) 32 32) w := by
  have ha : Tryz.prog.arrayLen 24 = 32 := by kernel_rfl
  have hu : Tryz.prog.underlying 24 = some (.array (Tryz.prog.arrayLen 24) (Tryz.prog.elem 24)) := by kernel_rfl
  have he : Tryz.prog.elem 24 = 5 := by kernel_rfl
  rw [run_sliceAt_array_all w 24 _ hu, he, size_u8, ha]
  have hadd : (⟨b, 0, none⟩ : Addr).add (0 * 1) = ⟨b, 0, none⟩ := by unfold Addr.add; split <;> simp_all
  simp only [Result.andThen, slicedAt]
  rw [if_neg (by decide), hadd]

theorem splice_head {α : Type} (Z cs : List α) : splice Z 0 cs = cs ++ Z.drop cs.length := by
  unfold splice
  simp
theorem kblk_row (key : List UInt8) (cs : List Value) (hcs : cs = (keyL key).map B8) : splice (List.replicate 64 (Value.int .u8 0)) 0 cs = (kblk key).map B8 := by
  rw [splice_head, hcs]
  unfold kblk
  have : Value.int .u8 0 = B8 0 := rfl
  rw [this, List.map_append, List.map_replicate, List.drop_replicate, List.length_map]
set_option maxRecDepth 100000 in
theorem upon_copy {o : Oper} {a : Act} {K : Act → World → Prop} {Q : Exit → Act → World → Prop} {W : World} (g dLen dCap : Nat) (sp : Option Addr) (sLen sCap : Nat) (cur : List Value) (t : TypeId) (cs : List Value)
    (hg : W.heap[g]? = some (.cells cur.toArray t (0, 0))) (hn : cs.length = Nat.min sLen dLen) (hpos : 0 < cs.length → ∃ ad, sp = some ad ∧ ∀ j v, cs[j]? = some v → W.cell? (ad.add j) = some v) (hfit : cs.length ≤ cur.length) (h1 : ∀ v ∈ cs, v.oneCell' = true)
    (h : ∀ W', Hid (W'.heap[g]? = some (.cells (splice cur 0 cs).toArray t (0, 0))) → Below g W W' → Oper.upon Tryz.prog o a K Q (.ok (.value (goInt cs.length)) W')) :
    Oper.upon Tryz.prog o a K Q (((Builtin.copy_ #[78, 78] 3 #[.slice (some ⟨g, 0, none⟩) dLen dCap, .slice sp sLen sCap]).run Tryz.prog W).andThen fun a w' => .ok (.value a) w') := by
  by_cases h0 : cs.length = 0
  · obtain rfl : cs = [] := List.eq_nil_of_length_eq_zero h0
    rw [run_copy_none (P := Tryz.prog) W 78 78 3 5 _ _ dLen dCap sLen sCap Tryz.underlying78 (by kernel_rfl) (by simpa using hn.symm)]
    exact h W (show _ = _ by simpa [splice] using hg) (Below.refl _ _)
  · obtain ⟨ad, rfl, hsrc⟩ := hpos (by omega)
    rw [run_copy_row (P := Tryz.prog) W 78 78 3 5 g 0 dLen dCap ad sLen sCap cur.toArray t cs Tryz.underlying78 (by kernel_rfl) hg hn hsrc (by simpa using hfit) h1]
    exact h _ (show _ = _ by simpa [splice] using setRow_heap W g _ _ t _ hg) (below_setRow (Below.refl _ _) (Nat.le_refl _) _)


set_option maxHeartbeats 2000000 in
set_option maxRecDepth 100000 in
theorem keyBlock_any (v : Value) (key : List UInt8) (w : World) (hr : key.length ≤ 4294967296) (h : HB w v key) :
    Calls Tryz.prog 79 #[v] w fun e w' => e = .returned (.agg ((kblk key).map B8).toArray) ∧ Below w.heap.size w w' := by
  have hkz : ((kblk key).map B8).toArray.size = 64 := by simp [kblk_len]
  have HIK : Hid ((Tryz.prog.info? 128).map (·.size) = some ((kblk key).map B8).toArray.size) := by show _ = _; rw [hkz]; kernel_rfl
  have HZK : Hid ((64 : Nat) = ((kblk key).map B8).toArray.size) := hkz.symm
  have HK1 : Hid _ := B8_onea (kblk key)
  have hsB := fun W => sliceBlk W (w.heap.size + 1)
  clear hkz
  by_cases hlen : 64 < key.length
  · have hs := fun W hW => shaSum_any v key W hr hW
    obtain ⟨CS, hCS⟩ : ∃ CS, CS = (keyL key).map B8 := ⟨_, rfl⟩
    have hCS' : (shaL key).map B8 = CS := by rw [hCS]; unfold keyL; rw [if_pos hlen]
    rw [hCS'] at hs
    have hl32 : CS.length = 32 := by rw [← hCS']; simp [shaL_len]
    have h1c : ∀ u ∈ CS, u.oneCell' = true := by rw [hCS]; exact B8_one _
    have hlt : (64 : Int) < (key.length : Int) := by omega
    have HV : Hid _ := h
    obtain ⟨pv, capv, rfl, _⟩ := h.cells
    have HCS : Hid _ := hCS
    have HL : Hid _ := hl32
    have H1C : Hid _ := h1c
    have HID : Hid ((Tryz.prog.info? 24).map (·.size) = some CS.toArray.size) := by show _ = _; rw [List.size_toArray, hl32]; kernel_rfl
    have HS32 : Hid ((32 : Nat) = CS.toArray.size) := by show _ = _; rw [List.size_toArray, hl32]
    have HD1 : Hid (CS.toArray.all (·.oneCell') = true) := by show _ = _; rw [hCS]; exact B8_onea _
    clear hCS hCS' hl32 h1c h
    go_enter Tryz.func79, Tryz.ntmps79
    go_wp2_with fail
    refine (hs _ (HB.alloc (HB.alloc HV.out _) _)).mono ?_
    rintro e w1 ⟨rfl, hb1⟩
    have hs1 : w.heap.size + 2 ≤ w1.heap.size := by have := hb1.size; simp at this; omega
    have G0 : Hid _ := below_blk hb1 (i := w.heap.size) (by simp; omega) (alloc2_first _ _ _)
    have G1 : Hid _ := below_blk hb1 (i := w.heap.size + 1) (by simp) (heap_alloc2_new _ _ _)
    have hbw : Below w.heap.size w w1 := (((Below.refl _ _).alloc (Nat.le_refl _) _).alloc (by simp) _).trans (hb1.mono (by simp; omega))
    have hsD := fun W => sliceDig W w1.heap.size
    clear hb1 hs
    go_wp2_with (refine wpList_store_row rfl 24 _ _ rfl w1.heap.size _ rfl rfl 24 _ (heap_alloc_new _ _) HID.out HS32.out HD1.out ?_)
    refine upon_copy (w.heap.size + 1) 64 64 (some ⟨w1.heap.size, 0, none⟩) 32 32 (List.replicate 64 (.int .u8 0)) 128 CS ?_ (by rw [HL.out]; rfl) (fun _ => ⟨_, rfl, ?_⟩) (by rw [HL.out, List.length_replicate]; decide) H1C.out ?_
    · rw [setRow_other _ _ _ _ (by omega), Below.heap_alloc _ _ _ (by omega)]; exact G1.out
    · intro j u hu
      rw [Addr.add_mid, cell_of_row _ _ _ _ _ _ (setRow_heap _ _ _ _ _ _ (heap_alloc_new _ _))]; simpa using hu
    intro w3 HG3 hb3
    have HR3 : Hid (w3.heap[w.heap.size]? = some (.cells (List.replicate 64 (Value.int .u8 0)).toArray 128 (0, 0))) := by
      show _ = _
      rw [hb3.block _ (by omega), setRow_other _ _ _ _ (by omega), Below.heap_alloc _ _ _ (by omega)]; exact G0.out
    have hbw3 : Below w.heap.size w w3 := (below_setRow (hbw.alloc (by omega) _) (by omega) _).trans (hb3.mono (by omega))
    clear hbw hb3
    have hg3 := HG3.out
    rw [kblk_row key CS HCS.out] at hg3
    have HG4 : Hid _ := hg3
    clear hg3 HG3
    go_wp2_with (first
      | (refine wpList_load_row rfl 128 _ rfl (w.heap.size + 1) rfl 128 _ (0, 0) _ HG4.out Tryz.underlying128 rfl HIK.out ?_)
      | (refine wpList_store_row rfl 128 _ _ rfl w.heap.size _ rfl rfl 128 _ HR3.out HIK.out HZK.out HK1.out ?_))
    refine bodyPost_ret (v := .agg ((kblk key).map B8).toArray) ?_ rfl ⟨rfl, below_setRow hbw3 (Nat.le_refl _) _⟩
    exact results_cell_row Tryz.results79 _ _ w.heap.size 128 _ (0, 0) _ rfl (setRow_heap _ _ _ _ _ _ HR3.out) Tryz.underlying128 rfl HIK.out
  · obtain ⟨CS, hCS⟩ : ∃ CS, CS = (keyL key).map B8 := ⟨_, rfl⟩
    have hCS' : key.map B8 = CS := by rw [hCS]; unfold keyL; rw [if_neg hlen]
    have hll : CS.length = key.length := by rw [← hCS']; simp
    have h1c : ∀ u ∈ CS, u.oneCell' = true := by rw [hCS]; exact B8_one _
    have hlt : ¬ (64 : Int) < (key.length : Int) := by omega
    obtain ⟨pv, capv, rfl, hpn, hpc⟩ := h.cells
    have hpos : 0 < CS.length → ∃ ad, pv = some ad ∧ ∀ j u, CS[j]? = some u → w.cell? (ad.add j) = some u := fun hp => by
      cases pv with
      | none => obtain ⟨rfl, _⟩ := hpn rfl; rw [hll] at hp; simp at hp
      | some ad => exact ⟨ad, rfl, by rw [← hCS']; exact hpc ad rfl⟩
    have HP : Hid _ := hpos
    have HCS : Hid _ := hCS
    have HL : Hid _ := hll
    have H1C : Hid _ := h1c
    clear hCS hCS' hll h1c h hpn hpc hpos
    go_enter Tryz.func79, Tryz.ntmps79
    go_wp2_with fail
    refine upon_copy (w.heap.size + 1) 64 64 pv key.length capv (List.replicate 64 (.int .u8 0)) 128 CS (heap_alloc2_new _ _ _) (by rw [HL.out]; exact (Nat.min_eq_left (by omega)).symm) (fun hp => ⟨(HP.out hp).choose, (HP.out hp).choose_spec.1, fun j u hu => cell_alloc_keep _ (cell_alloc_keep _ ((HP.out hp).choose_spec.2 j u hu))⟩) (by rw [HL.out, List.length_replicate]; omega) H1C.out ?_
    intro w3 HG3 hb3
    have HR3 : Hid (w3.heap[w.heap.size]? = some (.cells (List.replicate 64 (Value.int .u8 0)).toArray 128 (0, 0))) := by
      show _ = _
      rw [hb3.block _ (by omega)]; exact alloc2_first _ _ _
    have hbw3 : Below w.heap.size w w3 := (((Below.refl _ _).alloc (Nat.le_refl _) _).alloc (by simp) _).trans (hb3.mono (by omega))
    clear hb3
    have hg3 := HG3.out
    rw [kblk_row key CS HCS.out] at hg3
    have HG4 : Hid _ := hg3
    clear hg3 HG3
    go_wp2_with (first
      | (refine wpList_load_row rfl 128 _ rfl (w.heap.size + 1) rfl 128 _ (0, 0) _ HG4.out Tryz.underlying128 rfl HIK.out ?_)
      | (refine wpList_store_row rfl 128 _ _ rfl w.heap.size _ rfl rfl 128 _ HR3.out HIK.out HZK.out HK1.out ?_))
    refine bodyPost_ret (v := .agg ((kblk key).map B8).toArray) ?_ rfl ⟨rfl, below_setRow hbw3 (Nat.le_refl _) _⟩
    exact results_cell_row Tryz.results79 _ _ w.heap.size 128 _ (0, 0) _ rfl (setRow_heap _ _ _ _ _ _ HR3.out) Tryz.underlying128 rfl HIK.out

end Go.Proofs.YtpmknkagnkagpaaGreat

/- Contracts of mac's Tag and its closure. -/
namespace Go.Proofs.YtpmknkagnkagpaaGreat
open Go.RowKit

theorem HB.ofRow {W : World} {b : Nat} {l : List UInt8} {t : TypeId} {fr : Nat × Nat} (k : Nat) (hk : k = l.length) (hl : l.length ≤ 1099511627776) (h : W.heap[b]? = some (.cells (l.map B8).toArray t fr)) : HB W (.slice (some ⟨b, 0, none⟩) k k) l := by
  subst hk
  refine .inr ⟨_, 0, _, rfl, Nat.le_refl _, by unfold maxLen; omega, fun i hi => ?_⟩
  rw [Nat.zero_add, cell_of_row _ _ i _ _ _ h]
  simp [B8, List.getD, List.getElem?_eq_getElem hi]
def mixP (kb : List UInt8) (p : UInt8) (k : Nat) : List UInt8 := (kb.map (· ^^^ p)).take k ++ kb.drop k
theorem mixP_zero (kb : List UInt8) (p : UInt8) : mixP kb p 0 = kb := by unfold mixP; simp
theorem mixP_all (kb : List UInt8) (p : UInt8) (n : Nat) (h : kb.length = n) : mixP kb p n = kb.map (· ^^^ p) := by unfold mixP; subst h; rw [List.take_of_length_le (by simp), List.drop_length, List.append_nil]
theorem mixP_get (kb : List UInt8) (p : UInt8) (k : Nat) (h : k < kb.length) : ((mixP kb p k).map B8).toArray[k]? = some (.int .u8 ((kb.getD k 0).toNat : Int)) := by
  unfold mixP
  simp only [List.getElem?_toArray, List.getElem?_map]
  rw [List.getElem?_append_right (by simp; omega)]
  simp [Nat.min_eq_left (Nat.le_of_lt h), B8, List.getD, List.getElem?_eq_getElem h]
theorem mixP_set (kb : List UInt8) (p : UInt8) (k : Nat) (h : k < kb.length) : ((mixP kb p k).map B8).toArray.setIfInBounds k (B8 (kb.getD k 0 ^^^ p)) = ((mixP kb p (k + 1)).map B8).toArray := by
  have e : (mixP kb p k).set k (kb.getD k 0 ^^^ p) = mixP kb p (k + 1) := by
    unfold mixP
    rw [List.set_append_right _ _ (by simp; omega)]
    have h0 : k - ((kb.map (· ^^^ p)).take k).length = 0 := by simp; omega
    have hg : kb.getD k 0 = kb[k] := by simp [List.getD, List.getElem?_eq_getElem h]
    rw [h0, hg, List.drop_eq_getElem_cons h, List.set_cons_zero, List.take_succ_eq_append_getElem (by simpa using h), List.getElem_map, List.append_assoc, List.singleton_append]
  rw [List.setIfInBounds_toArray, ← List.map_set, e]
theorem xor_u8 (x p : UInt8) : bits .xor .u8 (x.toNat : Int) (p.toNat : Int) = (((x ^^^ p).toNat : Nat) : Int) := by
  rw [u8_xor_nat _ _ (by have := x.toNat_lt; omega) (by have := p.toNat_lt; omega)]
  simp

set_option maxHeartbeats 4000000 in
set_option maxRecDepth 100000 in
theorem round_any (p : UInt8) (pd : Int) (hpd : pd = (p.toNat : Int)) (v : Value) (l : List UInt8) (c : Nat) (kb : List UInt8) (w : World) (hk : kb.length = 64) (hr : l.length ≤ 4294967000) (hc : w.heap[c]? = some (.cells (kb.map B8).toArray 128 (0, 0))) (h : HB w v l) :
    Calls Tryz.prog 80 #[.int .u8 pd, v, .pointer (some ⟨c, 0, none⟩)] w fun e w' => e = .returned (.agg ((shaL (kb.map (· ^^^ p) ++ l)).map B8).toArray) ∧ Below w.heap.size w w' := by
  have hcl : c < w.heap.size := (Array.getElem?_eq_some_iff.1 hc).1
  obtain ⟨KA, hKA⟩ : ∃ KA, KA = (kb.map B8).toArray := ⟨_, rfl⟩
  rw [← hKA] at hc
  have hks : KA.size = 64 := by rw [hKA]; simp [hk]
  have HIK : Hid ((Tryz.prog.info? 128).map (·.size) = some KA.size) := by show _ = _; rw [hks]; kernel_rfl
  have HK1 : Hid (KA.all (·.oneCell') = true) := by show _ = _; rw [hKA]; exact B8_onea _
  have HKS : Hid ((64 : Nat) = KA.size) := hks.symm
  have HC : Hid _ := hc
  have HKA : Hid (KA = ((mixP kb p 0).map B8).toArray) := by show _ = _; rw [mixP_zero]; exact hKA
  have hrs : ((shaL (kb.map (· ^^^ p) ++ l)).map B8).toArray.size = 32 := by simp [shaL_len]
  obtain ⟨RS, hRS⟩ : ∃ RS, RS = ((shaL (kb.map (· ^^^ p) ++ l)).map B8).toArray := ⟨_, rfl⟩
  have hsum := fun v W hW => shaSum_any v (kb.map (· ^^^ p) ++ l) W (by simp; omega) hW
  rw [← hRS] at hrs hsum ⊢
  have HRI : Hid ((Tryz.prog.info? 24).map (·.size) = some RS.size) := by show _ = _; rw [hrs]; kernel_rfl
  have HR1 : Hid (RS.all (·.oneCell') = true) := by show _ = _; rw [hRS]; exact B8_onea _
  have HRS : Hid ((32 : Nat) = RS.size) := hrs.symm
  have HV : Hid _ := h
  obtain ⟨pv, capv, rfl, _⟩ := h.cells
  have hx := fun x : UInt8 => xor_u8 x p
  rw [← hpd] at hx
  have hsB := fun W => sliceBlk W (w.heap.size + 1)
  clear hKA hks hc hRS hrs h hpd
  go_enter Tryz.func80, Tryz.ntmps80
  go_wp2_with (first
    | (refine wpList_load_row rfl 128 _ rfl c rfl 128 KA (0, 0) _ (by rw [Below.heap_alloc _ _ _ hcl]; exact HC.out) Tryz.underlying128 rfl HIK.out ?_)
    | (refine wpList_store_row rfl 128 _ _ rfl (w.heap.size + 1) KA rfl rfl 128 _ (heap_alloc2_new _ _ _) HIK.out HKS.out HK1.out ?_))
  go_loopw [9] (fun i wr => ∃ k : Nat, k ≤ 64 ∧ i = .int .i64 k ∧ wr.heap[w.heap.size + 1]? = some (.cells ((mixP kb p k).map B8).toArray 128 (0, 0)) ∧ wr.heap[w.heap.size]? = some (.cells (List.replicate 32 (Value.int .u8 0)).toArray 24 (0, 0)) ∧ Below w.heap.size w wr) (fun i _ => 64 - (intOf i).toNat)
  case atStart =>
    refine ⟨0, by omega, rfl, ?_, ?_, below_setRow (((Below.refl _ _).alloc (Nat.le_refl _) _).alloc (by simp) _) (by omega) _⟩
    · rw [← HKA.out]; exact setRow_heap _ _ _ _ _ _ (heap_alloc2_new _ _ _)
    · rw [setRow_other _ _ _ _ (by omega)]; exact alloc2_first _ _ _
  case round =>
    obtain ⟨k, hk64, rfl, hT, hR, hbel⟩ := hrel
    have HT : Hid _ := hT
    have HR : Hid _ := hR
    have hsz : w.heap.size + 1 < wr.heap.size := (Array.getElem?_eq_some_iff.1 hT).1
    by_cases hlt : k < 64
    · have hcu := (cell_of_row _ _ k _ _ _ hT).trans (mixP_get kb p k (by omega))
      have hfu := frozen_of_row _ _ k _ _ hT
      have HSET : Hid _ := mixP_set kb p k (by omega)
      have hxx := hx (kb.getD k 0)
      have HX : Hid (B8 (kb.getD k 0 ^^^ p) = .int .u8 (((kb.getD k 0 ^^^ p).toNat : Nat) : Int)) := rfl
      generalize kb.getD k 0 ^^^ p = y at *
      generalize kb.getD k 0 = x at *
      clear hT hR hx
      go_wp2
      go_roundw
      case rel =>
        refine ⟨k + 1, by omega, by go_num, ?_, ?_, hbel.setCell (p := ⟨w.heap.size + 1, k, none⟩) (by simp) _⟩
        · rw [← HSET.out, HX.out]; exact heap_setCell_same _ (w.heap.size + 1) k _ 128 _ HT.out
        · rw [heap_setCell_other _ _ _ _ (by simp)]; exact HR.out
      case measure => simp [intOf]; omega
    · have hk' : k = 64 := by omega
      subst hk'
      rw [mixP_all kb p 64 hk] at hT
      have HM : Hid _ := HB.ofRow 64 (by simp [hk]) (by simp [hk]) hT
      have HVr : Hid _ := HB.below HV.out hbel
      have hfl : [kb.map (· ^^^ p), l].flatten.length ≤ 1099511627776 := by simp [hk]; omega
      have HFE : Hid (kb.map (· ^^^ p) ++ l = [kb.map (· ^^^ p), l].flatten) := by show _ = _; simp
      have HFL : Hid _ := hfl
      clear hT hR HT hfl hx
      go_wp2_with fail
      refine (join_any _ _ [kb.map (· ^^^ p), l] _ (by simp) HFL.out (two_cells _ _ _ _ _ _ rfl (HB.alloc HM.out _) (HB.alloc HVr.out _))).mono ?_
      rintro e wj ⟨vj, rfl, hfJ, hbJ⟩
      have HJ : Hid (HB wj vj (kb.map (· ^^^ p) ++ l)) := by rw [HFE.out]; exact hfJ.hb
      have hsj := hbJ.size
      have HRj : Hid _ := (hbJ.block w.heap.size (by simp; omega)).trans ((Below.heap_alloc _ _ _ (by omega)).trans HR.out)
      have hbwj : Below w.heap.size w wj := (hbel.alloc (by omega) _).trans (hbJ.mono (by simp; omega))
      clear hfJ hbJ
      go_wp2_with fail
      refine (hsum _ _ HJ.out).mono ?_
      rintro e w5 ⟨rfl, hb5⟩
      have HR5 : Hid _ := (hb5.block w.heap.size (by simp at hsj; omega)).trans HRj.out
      have hbw5 : Below w.heap.size w w5 := hbwj.trans (hb5.mono hbwj.size)
      clear hb5
      go_wp2_with (refine wpList_store_row rfl 24 _ _ rfl w.heap.size RS rfl rfl 24 _ HR5.out HRI.out HRS.out HR1.out ?_)
      refine bodyPost_ret (v := .agg RS) ?_ rfl ⟨rfl, below_setRow hbw5 (Nat.le_refl _) _⟩
      exact results_cell_row Tryz.results80 _ _ w.heap.size 24 _ (0, 0) _ rfl (setRow_heap _ _ _ _ _ _ HR5.out) Tryz.underlying24 rfl HRI.out

set_option maxHeartbeats 4000000 in
set_option maxRecDepth 100000 in
theorem tag_any (kv bv : Value) (key b : List UInt8) (w : World) (hrk : key.length ≤ 4294967000) (hrb : b.length ≤ 4294967000) (hk : HB w kv key) (hb : HB w bv b) :
    Calls Tryz.prog 69 #[kv, bv] w fun e w' => e = .returned (.agg ((macL key b).map B8).toArray) ∧ Below w.heap.size w w' := by
  have hkb := fun W hW => keyBlock_any kv key W (by omega) hW
  have hkl := kblk_len key
  have hr1 := fun v l c W hl hc hv => round_any 54 54 rfl v l c (kblk key) W hkl hl hc hv
  have hr2 := fun v l c W hl hc hv => round_any 92 92 rfl v l c (kblk key) W hkl hl hc hv
  obtain ⟨RS, hRS⟩ : ∃ RS, RS = ((macL key b).map B8).toArray := ⟨_, rfl⟩
  have hmac : macL key b = shaL ((kblk key).map (· ^^^ 92) ++ shaL ((kblk key).map (· ^^^ 54) ++ b)) := rfl
  obtain ⟨D1, hD1⟩ : ∃ D1, D1 = shaL ((kblk key).map (· ^^^ 54) ++ b) := ⟨_, rfl⟩
  rw [← hD1] at hmac
  have h1 := fun c W hc hv => hr1 bv b c W (by omega) hc hv
  have hd32 : D1.length = 32 := by rw [hD1]; exact shaL_len _
  have h2 := fun v c W hc hv => hr2 v D1 c W (by omega) hc hv
  rw [← hD1] at h1
  rw [← hmac, ← hRS] at h2
  rw [← hRS]
  have hrs : RS.size = 32 := by rw [hRS]; simp [macL_len]
  have HRI : Hid ((Tryz.prog.info? 24).map (·.size) = some RS.size) := by show _ = _; rw [hrs]; kernel_rfl
  have HR1 : Hid (RS.all (·.oneCell') = true) := by show _ = _; rw [hRS]; exact B8_onea _
  have HRS : Hid ((32 : Nat) = RS.size) := hrs.symm
  obtain ⟨DA, hDA⟩ : ∃ DA, DA = (D1.map B8).toArray := ⟨_, rfl⟩
  rw [← hDA] at h1
  have hds : DA.size = 32 := by rw [hDA]; simp [hd32]
  have HDI : Hid ((Tryz.prog.info? 24).map (·.size) = some DA.size) := by show _ = _; rw [hds]; kernel_rfl
  have HD1 : Hid (DA.all (·.oneCell') = true) := by show _ = _; rw [hDA]; exact B8_onea _
  have HDS : Hid ((32 : Nat) = DA.size) := hds.symm
  have HDA : Hid _ := hDA
  have HD32 : Hid _ := hd32
  obtain ⟨KA, hKA⟩ : ∃ KA, KA = ((kblk key).map B8).toArray := ⟨_, rfl⟩
  rw [← hKA] at hkb h1 h2
  have hks : KA.size = 64 := by rw [hKA]; simp [hkl]
  have HIK : Hid ((Tryz.prog.info? 128).map (·.size) = some KA.size) := by show _ = _; rw [hks]; kernel_rfl
  have HK1 : Hid (KA.all (·.oneCell') = true) := by show _ = _; rw [hKA]; exact B8_onea _
  have HKS : Hid ((64 : Nat) = KA.size) := hks.symm
  have HKV : Hid _ := hk
  have HBV : Hid _ := hb
  obtain ⟨pk, capk, rfl, _⟩ := hk.cells
  obtain ⟨pb, capb, rfl, _⟩ := hb.cells
  clear hr1 hr2 hmac hD1 hRS hrs hDA hds hKA hks hk hb hd32 hkl
  go_enter Tryz.func69, Tryz.ntmps69
  go_wp2_with fail
  refine (hkb _ (HB.alloc HKV.out _)).mono ?_
  rintro e w1 ⟨rfl, hb1⟩
  have hs1 : w.heap.size + 1 ≤ w1.heap.size := by have := hb1.size; simpa using this
  have G1 : Hid _ := below_blk hb1 (i := w.heap.size) (by simp) (heap_alloc_new _ _)
  have hbw1 : Below w.heap.size w w1 := ((Below.refl _ _).alloc (Nat.le_refl _) _).trans (hb1.mono (by simp))
  have HB1 : Hid _ := HB.below HBV.out hbw1
  clear hb1 hkb
  go_wp2_with (refine wpList_store_row rfl 128 _ _ rfl w1.heap.size KA rfl rfl 128 _ (heap_alloc_new _ _) HIK.out HKS.out HK1.out ?_)
  refine (h1 w1.heap.size _ (setRow_heap _ _ _ _ _ _ (heap_alloc_new _ _)) ?_).mono ?_
  · exact HB.below HB1.out (below_setRow ((Below.refl _ _).alloc (Nat.le_refl _) _) (Nat.le_refl _) _)
  rintro e w2 ⟨rfl, hb2⟩
  have hs2 : w1.heap.size + 1 ≤ w2.heap.size := by have := hb2.size; simpa using this
  have GC : Hid _ := (hb2.block w1.heap.size (by simp)).trans (setRow_heap _ _ _ _ _ _ (heap_alloc_new _ _))
  have G2 : Hid _ := (hb2.block w.heap.size (by simp; omega)).trans ((setRow_other _ _ _ _ (by omega)).trans ((Below.heap_alloc _ _ _ (by omega)).trans G1.out))
  have hbw2 : Below w.heap.size w w2 := (below_setRow (hbw1.alloc (by omega) _) (by omega) _).trans (hb2.mono (by simp; omega))
  have hsD := fun W => sliceDig W w2.heap.size
  clear hb2 h1 hbw1 HB1 G1
  go_wp2_with (refine wpList_store_row rfl 24 _ _ rfl w2.heap.size DA rfl rfl 24 _ (heap_alloc_new _ _) HDI.out HDS.out HD1.out ?_)
  refine (h2 _ w1.heap.size _ ?_ ?_).mono ?_
  · rw [setRow_other _ _ _ _ (by omega), Below.heap_alloc _ _ _ (by omega)]; exact GC.out
  · exact HB.ofRow 32 HD32.out.symm (by rw [HD32.out]; decide) (by rw [← HDA.out]; exact setRow_heap _ _ _ _ _ _ (heap_alloc_new _ _))
  rintro e w3 ⟨rfl, hb3⟩
  have hs3 : w2.heap.size + 1 ≤ w3.heap.size := by have := hb3.size; simpa using this
  have G3 : Hid _ := (hb3.block w.heap.size (by simp; omega)).trans ((setRow_other _ _ _ _ (by omega)).trans ((Below.heap_alloc _ _ _ (by omega)).trans G2.out))
  have hbw3 : Below w.heap.size w w3 := (below_setRow (hbw2.alloc (by omega) _) (by omega) _).trans (hb3.mono (by simp; omega))
  clear hb3 h2 hbw2 G2
  go_wp2_with (refine wpList_store_row rfl 24 _ _ rfl w.heap.size RS rfl rfl 24 _ G3.out HRI.out HRS.out HR1.out ?_)
  refine bodyPost_ret (v := .agg RS) ?_ rfl ⟨rfl, below_setRow hbw3 (Nat.le_refl _) _⟩
  exact results_cell_row Tryz.results69 _ _ w.heap.size 24 _ (0, 0) _ rfl (setRow_heap _ _ _ _ _ _ G3.out) Tryz.underlying24 rfl HRI.out

end Go.Proofs.YtpmknkagnkagpaaGreat
