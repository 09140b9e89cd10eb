/- cpu: what the document makes of a text of an instruction. -/
import Derived.Test.YtkpjfhphohanlaaGreatDoorLD
import Derived.Test.YtkpjfhphohanlaaGreatDoorLS
import Derived.Test.YtkpjfhphohanlaaGreatDoorNI
set_option linter.unusedVariables false
set_option linter.unusedSimpArgs false
namespace Go.Proofs.YtkpjfhphohanlaaGreatDoor.JC
open Go.RowKit
open Go.Proofs.YtkpjfhphohanlaaGreatDoor.EC (row_lt heap_at rangeAt_below rangeAt_row ret_bool ret_i64 beq_int)

/-- What the document answers: an instruction, and whether there is one. -/
def rdRes (o : Option Ins) : Value := match o with | some i => .tuple #[iV i, .bool true] | none => .tuple #[iV ⟨0, 0, 0, 0, 0⟩, .bool false]
theorem FSt.keep {base : Nat} {w w' : World} {v : Value} {ls : List (List UInt8)} (h : FSt base w v ls) (hk : ∀ j, v.ownBlock = some j → w'.heap[j]? = w.heap[j]?) : FSt base w' v ls := by
  obtain ⟨h1, h2⟩ := h
  refine ⟨h1, ?_⟩
  rcases h2 with h2 | ⟨g, cap, cur, hv, hg, hh, r⟩
  · exact .inl h2
  · exact .inr ⟨g, cap, cur, hv, hg, (hk g (by rw [hv]; rfl)).trans hh, r⟩
theorem FSt.below {base : Nat} {w w' : World} {v : Value} {ls : List (List UInt8)} (h : FSt base w v ls) (hb : Below w.heap.size w w') : FSt base w' v ls :=
  h.keep fun j hj => hb.block _ (World.ownsRow.lt h j hj).2
theorem splitR_ne : ∀ s : List UInt8, 0 < (splitR s).length
  | [] => Nat.one_pos
  | x :: l => by
    unfold splitR
    split
    · simp
    · rw [cnl_len]; have := splitR_ne l; split <;> simp <;> omega
theorem splitR_mem : ∀ (s p : List UInt8), p ∈ splitR s → p.length ≤ s.length
  | [], p, h => by
    have : p = [] := by simpa [splitR] using h
    rw [this]; simp
  | x :: l, p, h => by
    unfold splitR at h
    split at h
    · rcases List.mem_cons.1 h with rfl | h
      · simp
      · have := splitR_mem l p h; simp; omega
    · cases hs : splitR l with
      | nil => have := splitR_ne l; rw [hs] at this; simp at this
      | cons q r =>
        rw [hs] at h
        unfold cnl at h
        rcases List.mem_cons.1 h with rfl | h
        · have := splitR_mem l q (by rw [hs]; exact List.mem_cons_self ..); simp; omega
        · have := splitR_mem l p (by rw [hs]; exact List.mem_cons_of_mem _ h); simp; omega
theorem fs_at {base : Nat} {w : World} {g n cap : Nat} {ls : List (List UInt8)} (h : FSt base w (.slice (some ⟨g, 0, none⟩) n cap) ls) (hn : n = ls.length) (i : Nat) (hi : i < n) : w.cell? ⟨g, i, none⟩ = some (sV (ls.getD i [])) := by
  subst hn
  rw [World.ownsRow.cellAt h i (by omega), List.getElem?_map, List.getElem?_eq_getElem hi]
  simp [List.getD, List.getElem?_eq_getElem hi]
theorem bop (k : Int) (W : World) : (Instr.build 41 #[(0, .int .i64 k)]).run Tryz.prog W = .ok (.agg (iL ⟨k, 0, 0, 0, 0⟩).toArray) W := by kernel_rfl
theorem bz (W : World) : (Instr.build 41 #[]).run Tryz.prog W = .ok (.agg (iL iZ).toArray) W := by kernel_rfl
theorem bb4 (a b c d : Bool) (w : World) : (Instr.buildSlice 90 4 #[(0, .bool a), (1, .bool b), (2, .bool c), (3, .bool d)]).run Tryz.prog w = .ok (.slice (some ⟨w.heap.size, 0, none⟩) 4 4) (w.alloc (.cells #[.bool a, .bool b, .bool c, .bool d] 4 (0, 0))) := by kernel_rfl
set_option maxHeartbeats 1000000 in
set_option maxRecDepth 100000 in
theorem runtext_long (s : List UInt8) (hl : 60 < s.length) (w : World) : Calls Tryz.prog 19 #[sV s] w fun e w' => e = .returned (rdRes (unt s)) ∧ Below w.heap.size w w' := by
  rw [unt_long hl]
  obtain ⟨S, hS⟩ : ∃ S : ByteArray, S = ⟨s.toArray⟩ := ⟨_, rfl⟩
  have hsz : (60 : Int) < S.size := by rw [hS]; simp [ByteArray.size]; omega
  unfold sV
  rw [← hS]
  obtain ⟨ZI, hZI⟩ : ∃ ZI : List Value, ZI = iL iZ := ⟨_, rfl⟩
  have hzi : ∀ W, (zeroValue 41).run Tryz.prog W = .ok (.agg ZI.toArray) W := fun W => by rw [hZI]; exact ins_zero W
  have HBZ : Hid (∀ W, (Instr.build 41 #[]).run Tryz.prog W = .ok (.agg ZI.toArray) W) := fun W => by rw [hZI]; exact bz W
  have HZI : Hid ((Tryz.prog.info? 41).map (·.size) = some ZI.toArray.size) := by show _ = _; rw [hZI]; kernel_rfl
  have HZI2 : Hid ((Tryz.prog.info? 41).map (·.size) = some ZI.length) := by show _ = _; rw [hZI]; kernel_rfl
  have HZ1 : Hid (ZI.toArray.all (·.oneCell') = true) := by show _ = _; rw [hZI]; simp [Value.oneCell', iL]
  have HZA : Hid _ := hZI
  have HR : Hid ((w.alloc (.cells ZI.toArray 41 (0, 0))).heap[w.heap.size]? = some (.cells ZI.toArray 41 (0, 0))) := heap_alloc_new _ _
  have HB : Hid (Below w.heap.size w (w.alloc (.cells ZI.toArray 41 (0, 0)))) := (Below.refl _ _).alloc (Nat.le_refl _) _
  clear hZI hS
  go_enter Tryz.func19, Tryz.ntmps19
  go_wp2_with (first
    | (refine wpList_build rfl 41 #[] rfl #[] (.agg ZI.toArray) (by simp) (HBZ.out _) ?_)
    | (refine wpList_store_row rfl 41 _ _ rfl w.heap.size ZI.toArray rfl rfl 41 ZI.toArray HR.out HZI.out rfl HZ1.out ?_))
  refine bodyPost_ret (v := .tuple #[.agg ZI.toArray, .bool false]) (results2 Tryz.results19 _ _ w.heap.size 41 ZI (0, 0) _ rfl rfl (setRow_heap _ _ _ _ _ _ HR.out) Tryz.underlying41 rfl HZI2.out) rfl ⟨?_, below_setRow HB.out (Nat.le_refl _) _⟩
  rw [HZA.out]; rfl
end Go.Proofs.YtkpjfhphohanlaaGreatDoor.JC
