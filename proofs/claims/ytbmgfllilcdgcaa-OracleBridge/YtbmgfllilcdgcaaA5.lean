/- Contracts of mac's keyBlock, Tag and its closure. -/
import Derived.Test.YtbmgfllilcdgcaaY4
import Derived.Test.YtbmgfllilcdgcaaH3
import Derived.Test.YtbmgfllilcdgcaaG1
set_option linter.unusedVariables false
set_option linter.unusedSimpArgs false
namespace Go.Proofs.Ytbmgfllilcdgcaa
open Go.RowKit

theorem shaL_len (l : List UInt8) : (shaL l).length = 32 := dig8_len _
/-- What stands for a key. -/
def keyL (key : List UInt8) : List UInt8 := if 64 < key.length then shaL key else key
theorem keyL_len (key : List UInt8) : (keyL key).length ≤ 64 := by
  unfold keyL; split
  · rw [shaL_len]; decide
  · omega
/-- A key's block. -/
def kblk (key : List UInt8) : List UInt8 := keyL key ++ List.replicate (64 - (keyL key).length) 0
theorem kblk_len (key : List UInt8) : (kblk key).length = 64 := by
  have := keyL_len key
  unfold kblk; simp; omega
/-- The tag. -/
def macL (key b : List UInt8) : List UInt8 := shaL ((kblk key).map (· ^^^ 92) ++ shaL ((kblk key).map (· ^^^ 54) ++ b))
theorem macL_len (key b : List UInt8) : (macL key b).length = 32 := shaL_len _

theorem sliceDig (w : World) (b : Nat) : (Instr.sliceAt 23 (.pointer (some ⟨b, 0, none⟩)) none none none).run Try.prog w = .ok (.slice (some ⟨b, 0, none⟩) 32 32) w := by
  have ha : Try.prog.arrayLen 23 = 32 := by kernel_rfl
  have hu : Try.prog.underlying 23 = some (.array (Try.prog.arrayLen 23) (Try.prog.elem 23)) := by kernel_rfl
  have he : Try.prog.elem 23 = 5 := by kernel_rfl
  rw [run_sliceAt_array_all w 23 _ hu, he, size_u8, ha]
  have hadd : (⟨b, 0, none⟩ : Addr).add (0 * 1) = ⟨b, 0, none⟩ := by unfold Addr.add; split <;> simp_all
  simp only [Result.andThen, slicedAt]
  rw [if_neg (by decide), hadd]

theorem splice_head {α : Type} (Z cs : List α) : splice Z 0 cs = cs ++ Z.drop cs.length := by
  unfold splice
  simp
theorem kblk_row (key : List UInt8) (cs : List Value) (hcs : cs = (keyL key).map B8) : splice (List.replicate 64 (Value.int .u8 0)) 0 cs = (kblk key).map B8 := by
  rw [splice_head, hcs]
  unfold kblk
  have : Value.int .u8 0 = B8 0 := rfl
  rw [this, List.map_append, List.map_replicate, List.drop_replicate, List.length_map]
/-- The row of a slice of bytes as the copy wants it. -/
theorem row_src {w : World} {b n : Nat} {l : List UInt8} (h : ∀ i, i < l.length → w.cell? ⟨b, n + i, none⟩ = some (.int .u8 ((l.getD i 0).toNat : Int))) : ∀ j u, (l.map B8)[j]? = some u → w.cell? ((⟨b, n, none⟩ : Addr).add j) = some u := fun j u hu => by
  have hj : j < l.length := by have := (List.getElem?_eq_some_iff.1 hu).1; simpa using this
  have hadd : (⟨b, n, none⟩ : Addr).add j = ⟨b, n + j, none⟩ := by unfold Addr.add; split <;> simp_all
  rw [hadd, h j hj]
  rw [List.getElem?_map, List.getElem?_eq_getElem hj] at hu
  simpa [B8, List.getD, List.getElem?_eq_getElem hj] using hu

set_option maxRecDepth 100000 in
/-- A copy to a row's head, where the walk stands at it. -/
theorem upon_copy {o : Oper} {a : Act} {K : Act → World → Prop} {Q : Exit → Act → World → Prop} {W : World} (g dLen dCap : Nat) (sp : Option Addr) (sLen sCap : Nat) (cur : List Value) (t : TypeId) (cs : List Value)
    (hg : W.heap[g]? = some (.cells cur.toArray t (0, 0))) (hn : cs.length = Nat.min sLen dLen) (hpos : 0 < cs.length → ∃ ad, sp = some ad ∧ ∀ j v, cs[j]? = some v → W.cell? (ad.add j) = some v) (hfit : cs.length ≤ cur.length) (h1 : ∀ v ∈ cs, v.oneCell' = true)
    (h : ∀ W', Hid (W'.heap[g]? = some (.cells (splice cur 0 cs).toArray t (0, 0))) → Below g W W' → Oper.upon Try.prog o a K Q (.ok (.value (goInt cs.length)) W')) :
    Oper.upon Try.prog o a K Q (((Builtin.copy_ #[31, 31] 3 #[.slice (some ⟨g, 0, none⟩) dLen dCap, .slice sp sLen sCap]).run Try.prog W).andThen fun a w' => .ok (.value a) w') := by
  by_cases h0 : cs.length = 0
  · obtain rfl : cs = [] := List.eq_nil_of_length_eq_zero h0
    rw [run_copy_none (P := Try.prog) W 31 31 3 5 _ _ dLen dCap sLen sCap Try.underlying31 (by kernel_rfl) (by simpa using hn.symm)]
    exact h W (show _ = _ by simpa [splice] using hg) (Below.refl _ _)
  · obtain ⟨ad, rfl, hsrc⟩ := hpos (by omega)
    rw [run_copy_row (P := Try.prog) W 31 31 3 5 g 0 dLen dCap ad sLen sCap cur.toArray t cs Try.underlying31 (by kernel_rfl) hg hn hsrc (by simpa using hfit) h1]
    exact h _ (show _ = _ by simpa [splice] using setRow_heap W g _ _ t _ hg) (below_setRow (Below.refl _ _) (Nat.le_refl _) _)


set_option maxHeartbeats 2000000 in
set_option maxRecDepth 100000 in
theorem keyBlock_any (v : Value) (key : List UInt8) (w : World) (hr : key.length ≤ 4294967296) (h : HB w v key) :
    Calls Try.prog 52 #[v] w fun e w' => e = .returned (.agg ((kblk key).map B8).toArray) ∧ Below w.heap.size w w' := by
  have hkz : ((kblk key).map B8).toArray.size = 64 := by simp [kblk_len]
  have HIK : Hid ((Try.prog.info? 102).map (·.size) = some ((kblk key).map B8).toArray.size) := by show _ = _; rw [hkz]; kernel_rfl
  have HZK : Hid ((64 : Nat) = ((kblk key).map B8).toArray.size) := hkz.symm
  have HK1 : Hid _ := B8_onea (kblk key)
  have hsB := fun W => sliceBlk W (w.heap.size + 1)
  clear hkz
  by_cases hlen : 64 < key.length
  · have hs := fun W hW => shaSum_any v key W hr hW
    obtain ⟨CS, hCS⟩ : ∃ CS, CS = (keyL key).map B8 := ⟨_, rfl⟩
    have hCS' : (shaL key).map B8 = CS := by rw [hCS]; unfold keyL; rw [if_pos hlen]
    rw [hCS'] at hs
    have hl32 : CS.length = 32 := by rw [← hCS']; simp [shaL_len]
    have h1c : ∀ u ∈ CS, u.oneCell' = true := by rw [hCS]; exact B8_one _
    have hlt : (64 : Int) < (key.length : Int) := by omega
    have HV : Hid _ := h
    obtain ⟨pv, capv, rfl, _⟩ := h.cells
    have HCS : Hid _ := hCS
    have HL : Hid _ := hl32
    have H1C : Hid _ := h1c
    have HID : Hid ((Try.prog.info? 23).map (·.size) = some CS.toArray.size) := by show _ = _; rw [List.size_toArray, hl32]; kernel_rfl
    have HS32 : Hid ((32 : Nat) = CS.toArray.size) := by show _ = _; rw [List.size_toArray, hl32]
    have HD1 : Hid (CS.toArray.all (·.oneCell') = true) := by show _ = _; rw [hCS]; exact B8_onea _
    clear hCS hCS' hl32 h1c h
    go_enter Try.func52, Try.ntmps52
    go_wp2_with fail
    refine (hs _ (HB.alloc (HB.alloc HV.out _) _)).mono ?_
    rintro e w1 ⟨rfl, hb1⟩
    have hs1 : w.heap.size + 2 ≤ w1.heap.size := by have := hb1.size; simp at this; omega
    have G0 : Hid _ := below_blk hb1 (i := w.heap.size) (by simp; omega) (alloc2_first _ _ _)
    have G1 : Hid _ := below_blk hb1 (i := w.heap.size + 1) (by simp) (heap_alloc2_new _ _ _)
    have hbw : Below w.heap.size w w1 := (((Below.refl _ _).alloc (Nat.le_refl _) _).alloc (by simp) _).trans (hb1.mono (by simp; omega))
    have hsD := fun W => sliceDig W w1.heap.size
    clear hb1 hs
    go_wp2_with (refine wpList_store_row rfl 23 _ _ rfl w1.heap.size _ rfl rfl 23 _ (heap_alloc_new _ _) HID.out HS32.out HD1.out ?_)
    refine upon_copy (w.heap.size + 1) 64 64 (some ⟨w1.heap.size, 0, none⟩) 32 32 (List.replicate 64 (.int .u8 0)) 102 CS ?_ (by rw [HL.out]; rfl) (fun _ => ⟨_, rfl, ?_⟩) (by rw [HL.out, List.length_replicate]; decide) H1C.out ?_
    · rw [setRow_other _ _ _ _ (by omega), Below.heap_alloc _ _ _ (by omega)]; exact G1.out
    · intro j u hu
      rw [Addr.add_mid, cell_of_row _ _ _ _ _ _ (setRow_heap _ _ _ _ _ _ (heap_alloc_new _ _))]; simpa using hu
    intro w3 HG3 hb3
    have HR3 : Hid (w3.heap[w.heap.size]? = some (.cells (List.replicate 64 (Value.int .u8 0)).toArray 102 (0, 0))) := by
      show _ = _
      rw [hb3.block _ (by omega), setRow_other _ _ _ _ (by omega), Below.heap_alloc _ _ _ (by omega)]; exact G0.out
    have hbw3 : Below w.heap.size w w3 := (below_setRow (hbw.alloc (by omega) _) (by omega) _).trans (hb3.mono (by omega))
    clear hbw hb3
    have hg3 := HG3.out
    rw [kblk_row key CS HCS.out] at hg3
    have HG4 : Hid _ := hg3
    clear hg3 HG3
    go_wp2_with (first
      | (refine wpList_load_row rfl 102 _ rfl (w.heap.size + 1) rfl 102 _ (0, 0) _ HG4.out Try.underlying102 rfl HIK.out ?_)
      | (refine wpList_store_row rfl 102 _ _ rfl w.heap.size _ rfl rfl 102 _ HR3.out HIK.out HZK.out HK1.out ?_))
    refine bodyPost_ret (v := .agg ((kblk key).map B8).toArray) ?_ rfl ⟨rfl, below_setRow hbw3 (Nat.le_refl _) _⟩
    exact results_cell_row Try.results52 _ _ w.heap.size 102 _ (0, 0) _ rfl (setRow_heap _ _ _ _ _ _ HR3.out) Try.underlying102 rfl HIK.out
  · obtain ⟨CS, hCS⟩ : ∃ CS, CS = (keyL key).map B8 := ⟨_, rfl⟩
    have hCS' : key.map B8 = CS := by rw [hCS]; unfold keyL; rw [if_neg hlen]
    have hll : CS.length = key.length := by rw [← hCS']; simp
    have h1c : ∀ u ∈ CS, u.oneCell' = true := by rw [hCS]; exact B8_one _
    have hlt : ¬ (64 : Int) < (key.length : Int) := by omega
    obtain ⟨pv, capv, rfl, hpn, hpc⟩ := h.cells
    have hpos : 0 < CS.length → ∃ ad, pv = some ad ∧ ∀ j u, CS[j]? = some u → w.cell? (ad.add j) = some u := fun hp => by
      cases pv with
      | none => obtain ⟨rfl, _⟩ := hpn rfl; rw [hll] at hp; simp at hp
      | some ad => exact ⟨ad, rfl, by rw [← hCS']; exact hpc ad rfl⟩
    have HP : Hid _ := hpos
    have HCS : Hid _ := hCS
    have HL : Hid _ := hll
    have H1C : Hid _ := h1c
    clear hCS hCS' hll h1c h hpn hpc hpos
    go_enter Try.func52, Try.ntmps52
    go_wp2_with fail
    refine upon_copy (w.heap.size + 1) 64 64 pv key.length capv (List.replicate 64 (.int .u8 0)) 102 CS (heap_alloc2_new _ _ _) (by rw [HL.out]; exact (Nat.min_eq_left (by omega)).symm) (fun hp => ⟨(HP.out hp).choose, (HP.out hp).choose_spec.1, fun j u hu => cell_alloc_keep _ (cell_alloc_keep _ ((HP.out hp).choose_spec.2 j u hu))⟩) (by rw [HL.out, List.length_replicate]; omega) H1C.out ?_
    intro w3 HG3 hb3
    have HR3 : Hid (w3.heap[w.heap.size]? = some (.cells (List.replicate 64 (Value.int .u8 0)).toArray 102 (0, 0))) := by
      show _ = _
      rw [hb3.block _ (by omega)]; exact alloc2_first _ _ _
    have hbw3 : Below w.heap.size w w3 := (((Below.refl _ _).alloc (Nat.le_refl _) _).alloc (by simp) _).trans (hb3.mono (by omega))
    clear hb3
    have hg3 := HG3.out
    rw [kblk_row key CS HCS.out] at hg3
    have HG4 : Hid _ := hg3
    clear hg3 HG3
    go_wp2_with (first
      | (refine wpList_load_row rfl 102 _ rfl (w.heap.size + 1) rfl 102 _ (0, 0) _ HG4.out Try.underlying102 rfl HIK.out ?_)
      | (refine wpList_store_row rfl 102 _ _ rfl w.heap.size _ rfl rfl 102 _ HR3.out HIK.out HZK.out HK1.out ?_))
    refine bodyPost_ret (v := .agg ((kblk key).map B8).toArray) ?_ rfl ⟨rfl, below_setRow hbw3 (Nat.le_refl _) _⟩
    exact results_cell_row Try.results52 _ _ w.heap.size 102 _ (0, 0) _ rfl (setRow_heap _ _ _ _ _ _ HR3.out) Try.underlying102 rfl HIK.out

end Go.Proofs.Ytbmgfllilcdgcaa
