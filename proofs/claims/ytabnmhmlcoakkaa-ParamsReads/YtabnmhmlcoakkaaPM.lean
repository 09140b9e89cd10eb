/- params: the reference's mark and word. -/
import Derived.Test.YtabnmhmlcoakkaaPK
import Derived.Lib.AppendZerosOnto
import Derived.Laws.IdiomStrings
set_option linter.unusedVariables false
set_option linter.unusedSimpArgs false
namespace Go.Proofs.Ytabnmhmlcoakkaa.PC
open Go.RowKit

theorem below_setCells {B : Nat} {w : World} (b : Nat) (hb : B ≤ b) : ∀ (vs : List Value) (o : Nat) (w' : World), Below B w w' → Below B w (w'.setCells b o vs)
  | [], o, w', h => h
  | v :: vs, o, w', h => below_setCells b hb vs (o + 1) _ (h.setCell (p := ⟨b, o, none⟩) hb v)
theorem zeros_u8 (k : Nat) : (Builtin.zeroCells (Value.int .u8 0).cells k) = (List.replicate k (Value.int .u8 0)).toArray := by
  unfold Builtin.zeroCells
  apply Array.ext
  · simp [Value.cells]
  · intro i h1 h2
    simp [Value.cells, Nat.mod_one]
theorem run_room_zeros (w : World) (ty : TypeId) (b off sLen sCap k : Nat) (h0 : 0 < k) (hk : k ≤ 65536) (hroom : sLen + k ≤ sCap) (hc : ∀ j, j < k → (w.cell? ⟨b, off + sLen + j, none⟩).isSome = true) (hf : ∀ j, j < k → w.frozen? ⟨b, off + sLen + j, none⟩ = false) :
    (Builtin.append_ #[56, 3] ty #[.slice (some ⟨b, off, none⟩) sLen sCap, .int .i64 (k : Int)]).run Try.prog w = .ok (.slice (some ⟨b, off, none⟩) (sLen + k) sCap) (w.setCells b (off + sLen) (List.replicate k (.int .u8 0))) := by
  obtain ⟨i0, hi, hz0, hz1, hz2⟩ := info_parts Try.infoU8
  have hst := run_storeCells_cells (P := Try.prog) b (off + sLen) (List.replicate k (.int .u8 0)) 0 w (by simpa using hc) (by simpa using hf) (fun v hv => by rw [List.eq_of_mem_replicate hv]; rfl)
  simp only [Nat.add_zero] at hst
  have hw : IntKind.i64.wrap (k : Int) = k := by rw [IntKind.wrap_i64]; omega
  have hneg : ¬ ((k : Int) < 0) := by omega
  have hz : ¬ (k = 0) := by omega
  have h48 : ¬ (281474976710656 < (k : Int)) := by omega
  have htn : Try.prog.underlying 3 = some (.int .i64) := Try.underlying3
  simp [Builtin.append_, run_underlying Try.underlying56, run_underlying htn, sizeOf, typeInfo, zeroValue, hi, hz0, hz1, hz2, asInt, asIntOf, hw, hneg, hz, h48, hroom, zeros_u8, add_none, hst]
/-- A text's bytes. -/
def sb (s : ByteArray) : List UInt8 := s.data.toList
theorem sb_len (s : ByteArray) : (sb s).length = s.size := by unfold sb; simp
theorem conv_sb (W : World) (s : ByteArray) : (convert 9 56 (.string s)).run Try.prog W = .ok (.slice (some ⟨W.heap.size, 0, none⟩) s.size (grownCap W s.size 0 5))
    (W.drew.alloc (.cells (bytesRow s (grownCap W s.size 0 5)) 5 ((bytesRow s (grownCap W s.size 0 5)).size, (bytesRow s (grownCap W s.size 0 5)).size + 1))) :=
  run_bytes_of_string W 9 56 5 s Try.underlying9 Try.underlying56 Try.underlying5
theorem bytesRow_list (s : ByteArray) (cap : Nat) : bytesRow s cap = ((sb s).map B8 ++ List.replicate (cap - s.size) (Value.int .u8 0)).toArray := by
  unfold bytesRow sb
  apply Array.ext'
  simp [B8]
theorem rangeAt_append {w : World} {b o : Nat} {a c : List Value} (h1 : w.rangeAt b o a) (h2 : w.rangeAt b (o + a.length) c) : w.rangeAt b o (a ++ c) := fun j v hv => by
  rcases Nat.lt_or_ge j a.length with hj | hj
  · rw [List.getElem?_append_left hj] at hv; exact h1 j v hv
  · rw [List.getElem?_append_right hj] at hv
    have := h2 (j - a.length) v hv
    rw [show o + a.length + (j - a.length) = o + j by omega] at this
    exact this
theorem map_zeros (k : Nat) : (List.replicate k (0 : UInt8)).map B8 = List.replicate k (Value.int .u8 0) := by
  rw [List.map_replicate]; rfl
theorem mark_app (W : World) (ty : TypeId) (s : ByteArray) (k : Nat) (hk : s.size + k = 8) (h1 : 1 ≤ k) : ∃ v W', (Builtin.append_ #[56, 3] ty #[.slice (some ⟨W.heap.size, 0, none⟩) s.size (grownCap W s.size 0 5), .int .i64 (k : Int)]).run Try.prog
      (W.drew.alloc (.cells (bytesRow s (grownCap W s.size 0 5)) 5 ((bytesRow s (grownCap W s.size 0 5)).size, (bytesRow s (grownCap W s.size 0 5)).size + 1))) = .ok v W' ∧ HB W' v (sb s ++ List.replicate k 0) ∧ Below W.heap.size W W' := by
  have hge := grownCap_ge W s.size 0 5
  have hle := grownCap_le_maxLen W s.size 0 5 (by unfold maxLen; omega)
  generalize grownCap W s.size 0 5 = cap at *
  have hrow : ∀ o : Obj, (W.drew.alloc o).heap[W.heap.size]? = some o := fun o => heap_alloc_new W.drew o
  have hbl : ∀ o : Obj, Below W.heap.size W (W.drew.alloc o) := fun o => ((Below.refl _ _).drew).alloc (Nat.le_refl _) _
  have hsz : (bytesRow s cap).size = cap := by rw [bytesRow_list]; simp [sb_len]; omega
  rw [hsz]
  have hr0 := hrow (.cells (bytesRow s cap) 5 (cap, cap + 1))
  have hb0 := hbl (.cells (bytesRow s cap) 5 (cap, cap + 1))
  have hs0 : (W.drew.alloc (.cells (bytesRow s cap) 5 (cap, cap + 1))).heap.size = W.heap.size + 1 := by simp
  generalize W.drew.alloc (.cells (bytesRow s cap) 5 (cap, cap + 1)) = X at *
  have hra : X.rangeAt W.heap.size 0 ((sb s).map B8) := by
    have h0 := rangeAt_part (rangeAt_row (by rw [bytesRow_list] at hr0; exact hr0)) 0 s.size
    rw [List.drop_zero, List.take_left' (by simp [sb_len])] at h0
    exact h0
  have hl8 : (sb s ++ List.replicate k (0 : UInt8)).length = 8 := by simp [sb_len, hk]
  by_cases hc : 8 ≤ cap
  · refine ⟨_, _, run_room_zeros X ty W.heap.size 0 s.size cap k h1 (by omega) (by omega) (fun j hj => ?_) (fun j hj => ?_), ?_, below_setCells _ (Nat.le_refl _) _ _ _ hb0⟩
    · rw [cell_of_row _ _ _ _ _ _ hr0, Array.getElem?_eq_getElem (by rw [hsz]; omega)]; rfl
    · unfold World.frozen?; rw [hr0]; simp; omega
    · rw [hk]
      refine hb_range 8 hl8.symm (by omega) hle ?_
      rw [List.map_append, map_zeros]
      refine rangeAt_append (World.rangeAt_setCells_apart hra _ _ _ (.inr (.inl (by simp [sb_len])))) ?_
      rw [List.length_map, sb_len]
      refine World.rangeAt_setCells_same _ _ _ _ (fun j hj => ?_)
      rw [List.length_replicate] at hj
      refine ⟨?_, ?_⟩
      · rw [cell_of_row _ _ _ _ _ _ hr0, Array.getElem?_eq_getElem (by rw [hsz]; omega)]; rfl
      · unfold World.frozen?; rw [hr0]; simp; omega
  · obtain ⟨i0, hi, hz0, hz1, hz2⟩ := info_parts Try.infoU8
    have hld := run_loadCells_list (P := Try.prog) X.drew ⟨W.heap.size, 0, none⟩ ((sb s).map B8) (fun j v hv => by rw [add_none]; exact hra j v hv)
    rw [List.length_map, sb_len] at hld
    have hgr := Lib.run_append_grow_zeros (P := Try.prog) X 56 3 ty 5 i0 (.int .u8 0) .i64 .i64 Try.underlying56 Try.underlying3 hi hz0 (some ⟨W.heap.size, 0, none⟩) s.size cap ((sb s).map B8) (by rw [hz1]; simpa [Builtin.firstCells] using hld) k (by omega) (by rw [hz1]; decide) (by omega) (by omega) (by rw [hz2]; omega) (by
      rw [hz2]
      have : Builtin.nextslicecap (s.size + k) cap ≤ 16 := by unfold Builtin.nextslicecap; split <;> (try split) <;> omega
      omega)
    refine ⟨_, _, hgr, ?_, (hb0.drew).alloc (by show W.heap.size ≤ X.heap.size; omega) _⟩
    have hge2 := grownCap_ge X (s.size + k) cap 5
    have hle2 := grownCap_le_maxLen X (s.size + k) cap 5 (by unfold maxLen; omega)
    generalize grownCap X (s.size + k) cap 5 = c2 at *
    refine hb_range (s.size + k) (by omega) (by omega) hle2 ?_
    have hn : (X.drew.alloc (.cells (((sb s).map B8).toArray ++ Builtin.zeroCells (Value.int .u8 0).cells k ++ Builtin.zeroCells (Value.int .u8 0).cells (c2 - (s.size + k))) 5)).heap[X.heap.size]? = some (.cells (((sb s).map B8 ++ List.replicate k (Value.int .u8 0)) ++ List.replicate (c2 - (s.size + k)) (Value.int .u8 0)).toArray 5 (0, 0)) := by
      refine (heap_alloc_new X.drew _).trans ?_
      rw [zeros_u8, zeros_u8]
      simp
    have h0 := rangeAt_part (rangeAt_row hn) 0 8
    rw [List.drop_zero, List.take_left' (by simp [sb_len]; omega)] at h0
    rw [List.map_append, map_zeros]
    exact h0
theorem mark_any (s : ByteArray) (k : Nat) (w : World) (hk : s.size + k = 8) (h1 : 1 ≤ k) :
    Calls Try.prog 27 #[.string s] w fun e w' => ∃ v, e = .returned v ∧ HB w' v (sb s ++ List.replicate k 0) ∧ Below w.heap.size w w' := by
  have hcv := conv_sb w s
  obtain ⟨v, W', hrun, hhb, hbel⟩ := mark_app w 56 s k hk h1
  have HRUN : Hid _ := hrun
  have HH : Hid _ := hhb
  have hki : IntKind.i64.wrap (8 - (s.size : Int)) = (k : Int) := by rw [IntKind.wrap_i64]; omega
  have hki2 : (8 - (s.size : Int)) = (k : Int) := by omega
  clear hrun hhb
  go_enter Try.func27, Try.ntmps27
  go_wp2_with (at_builtin; refine Lib.wpList_append_run _ rfl (.tmp 4) (.tmp 7) 56 3 rfl _ _ rfl rfl _ _ HRUN.out ?_)
  go_ret
  exact ⟨_, rfl, HH.out, hbel⟩
end Go.Proofs.Ytabnmhmlcoakkaa.PC
