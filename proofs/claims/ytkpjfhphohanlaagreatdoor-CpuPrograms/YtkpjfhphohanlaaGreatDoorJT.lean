/- cpu: texts: strings cut; the names of operations. -/
import Derived.Test.YtkpjfhphohanlaaGreatDoorJR
import Derived.Lib.LaidTab
set_option linter.unusedVariables false
set_option linter.unusedSimpArgs false
namespace Go.Proofs.YtkpjfhphohanlaaGreatDoor.JC
open Go.RowKit
open Go.Proofs.YtkpjfhphohanlaaGreatDoor.EC (row_lt heap_at rangeAt_below rangeAt_row ret_bool ret_i64 beq_int)

/-- A string of these bytes. -/
def sV (l : List UInt8) : Value := .string ⟨l.toArray⟩
theorem idx_cases (l : List UInt8) (c : UInt8) : (Lib.indexByte l c = -1 ∧ ct1 c l = l ∧ ct2 c l = []) ∨ ∃ n : Nat, Lib.indexByte l c = n ∧ n < l.length ∧ ct1 c l = l.take n ∧ ct2 c l = l.drop (n + 1) := by
  have h1 := cut_one l c
  unfold Lib.cut at h1
  rw [Lib.index_one] at h1
  have hge := Lib.indexByte_ge l c
  by_cases h : 0 ≤ Lib.indexByte l c
  · right
    refine ⟨(Lib.indexByte l c).toNat, by omega, ?_, ?_, ?_⟩
    · have := Lib.index_room l [c] (by rw [Lib.index_one]; exact h)
      rw [Lib.index_one] at this
      simp at this; omega
    · rw [if_pos h] at h1; exact h1.1.symm
    · rw [if_pos h] at h1; exact h1.2.symm
  · left
    rw [if_neg h] at h1
    exact ⟨by omega, h1.1.symm, h1.2.symm⟩
theorem ext_take (l : List UInt8) (n : Nat) : (⟨l.toArray⟩ : ByteArray).extract 0 n = ⟨(l.take n).toArray⟩ := by
  have h := Lib.extract_data ⟨l.toArray⟩ 0 n
  apply ByteArray.ext
  apply Array.ext'
  simp at h ⊢
  try exact h
theorem ext_drop (l : List UInt8) (n : Nat) : (⟨l.toArray⟩ : ByteArray).extract n l.length = ⟨(l.drop n).toArray⟩ := by
  have h := Lib.extract_data ⟨l.toArray⟩ n l.length
  apply ByteArray.ext
  apply Array.ext'
  rw [h]
  simp
  rw [List.take_of_length_le (by simp)]
set_option maxHeartbeats 1000000 in
set_option maxRecDepth 100000 in
theorem cutl_any (l : List UInt8) (c : UInt8) (hl : l.length < 4611686018427387904) (w : World) : Calls Tryz.prog 32 #[sV l, .string ⟨#[c]⟩] w fun e w' => (∃ b, e = .returned (.tuple #[sV (ct1 c l), sV (ct2 c l), .bool b])) ∧ ∃ n, w' = w.drewN n := by
  have hI := fun W => Tryz.stringslite_Index_one ⟨l.toArray⟩ c W
  rcases idx_cases l c with ⟨h1, h2, h3⟩ | ⟨n, h1, h2, h3, h4⟩
  · rw [h1] at hI
    rw [h2, h3]
    unfold sV
    go_enter Tryz.func32, Tryz.ntmps32
    go_wp2_with (go_at_call 73; refine Calls.mono (hI _) ?_; rintro e wq ⟨rfl, rfl⟩)
    go_ret3
    exact ⟨⟨_, rfl⟩, 0, rfl⟩
  · rw [h1] at hI
    rw [h3, h4]
    have e1 := ext_take l n
    have e2 := ext_drop l (n + 1)
    have HE1 : Hid _ := e1
    have HE2 : Hid _ := e2
    have hsz : (⟨l.toArray⟩ : ByteArray).size = l.length := by simp [ByteArray.size]
    unfold sV
    obtain ⟨s, hs⟩ : ∃ s : ByteArray, s = ⟨l.toArray⟩ := ⟨_, rfl⟩
    rw [← hs] at hI HE1 HE2 hsz ⊢
    clear e1 e2
    have hn1 : ((n : Int) + 1 ≤ (s.size : Int)) := by rw [hsz]; omega
    have hn2 : (n + 1 ≤ s.size) := by rw [hsz]; omega
    have hn3 : (n ≤ s.size) := by omega
    have hn4 : ((n : Int) ≤ (s.size : Int)) := by omega
    have hn5 : ((n : Int) + 1 ≤ 4611686018427387904) := by omega
    have HSZ : Hid _ := hsz
    clear hs hsz h1 h2 h3 h4
    go_enter Tryz.func32, Tryz.ntmps32
    go_wp2_with (go_at_call 73; refine Calls.mono (hI _) ?_; rintro e wq ⟨rfl, rfl⟩)
    go_quiet (fail)
    go_wp2
    go_ret3
    exact ⟨⟨true, by rw [← HE1.out, ← HE2.out, ← HSZ.out]; rfl⟩, nq, rfl⟩
theorem cut_any (l : List UInt8) (c : UInt8) (hl : l.length < 4611686018427387904) (w : World) : Calls Tryz.prog 17 #[sV l, .string ⟨#[c]⟩] w fun e w' => (∃ b, e = .returned (.tuple #[sV (ct1 c l), sV (ct2 c l), .bool b])) ∧ ∃ n, w' = w.drewN n := by
  have hC := fun W => cutl_any l c hl W
  unfold sV at *
  go_enter Tryz.func17, Tryz.ntmps17
  go_wp2_with (go_at_call 32; refine Calls.mono (hC _) ?_; rintro e wq ⟨⟨b, rfl⟩, n, rfl⟩)
  go_ret3
  exact ⟨⟨b, rfl⟩, n, rfl⟩
/-- The names as the program's table holds them. -/
def nmV : List Value := nmL.map sV
structure NT (w : World) : Prop where
  row : w.rangeAt 0 0 nmV
theorem NT.below {w w' : World} (h : NT w) (hb : Below w.heap.size w w') : NT w' := ⟨rangeAt_below h.row hb⟩
theorem NT.drewN {w : World} (h : NT w) (n : Nat) : NT (w.drewN n) := ⟨fun j v hv => h.row j v hv⟩
theorem info18 : (Tryz.prog.info? 95).map (·.size) = some nmV.length := by kernel_rfl
theorem nmV_get (k : Nat) (hk : k < 18) : nmV[k]? = some (sV (nmL.getD k [])) := by
  have h : nmL.length = 18 := rfl
  unfold nmV
  rw [List.getElem?_map, List.getElem?_eq_getElem (by omega)]
  simp [List.getD, List.getElem?_eq_getElem (show k < nmL.length by omega)]
def opOk (l : List UInt8) (k : Nat) : Prop := ∀ j, j < k → nmL.getD j [] ≠ l
theorem opOf_hit {l : List UInt8} {k : Nat} (hk : k < 18) (h : opOk l k) (he : nmL.getD k [] = l) : opOf l = k := by
  have hlen : nmL.length = 18 := rfl
  unfold opOf
  have : nmL.findIdx? (fun x => decide (x = l)) = some k := by
    rw [List.findIdx?_eq_some_iff_getElem]
    refine ⟨by omega, ?_, fun j hj => ?_⟩
    · simp [List.getD, List.getElem?_eq_getElem (show k < nmL.length by omega)] at he; simpa using he
    · have := h j hj
      simp [List.getD, List.getElem?_eq_getElem (show j < nmL.length by omega)] at this; simpa using this
  rw [this]
theorem opOf_none {l : List UInt8} (h : opOk l 18) : opOf l = 0 := by
  have hlen : nmL.length = 18 := rfl
  unfold opOf
  have : nmL.findIdx? (fun x => decide (x = l)) = none := by
    rw [List.findIdx?_eq_none_iff]
    intro x hx
    obtain ⟨j, hj, rfl⟩ := List.mem_iff_getElem.1 hx
    have := h j (by omega)
    simp [List.getD, List.getElem?_eq_getElem hj] at this; simpa using this
  rw [this]
theorem run_idx18 (NA : Array Value) (hs : NA.size = 18) (k : Nat) (hk : k < 18) (v : Value) (hv : NA[k]? = some v) (w : World) : (Instr.index 95 (.agg NA) (.int .i64 (k : Int))).run Tryz.prog w = .ok v w := by
  have hu : Tryz.prog.underlying 95 = some (.array 18 9) := by kernel_rfl
  have he := Tryz.sizeOf9
  have ha := Tryz.isAgg9
  have hn : (0 : Int) ≤ (k : Int) ∧ (k : Int) < 18 := by omega
  have hl : k < NA.size := by omega
  have hv2 : NA.getD k undef = v := by simp [Array.getD, hl]; rw [Array.getElem?_eq_getElem hl] at hv; simpa using hv
  have hv3 : NA[k] = v := by rw [Array.getElem?_eq_getElem hl] at hv; simpa using hv
  simp [Instr.index, run_underlying hu, asIntOf, hn, part, he, ha, hv, hv2, hv3, hl, go_sem, Result.andThen]
  try (intro h; omega)
set_option maxHeartbeats 1000000 in
set_option maxRecDepth 100000 in
theorem opOf_any (l : List UInt8) (w : World) (hN : NT w) : Calls Tryz.prog 65 #[sV l] w fun e w' => e = .returned (.int .i64 (opOf l)) ∧ w = w' := by
  have HN : Hid _ := hN.row
  have HG : Hid (∀ k, k < 18 → nmV.toArray[k]? = some (sV (nmL.getD k []))) := fun k hk => by rw [List.getElem?_toArray]; exact nmV_get k hk
  have HI : Hid _ := info18
  have HLN : Hid (nmV.toArray.size = 18) := rfl
  generalize nmV = NV at *
  clear hN
  unfold sV
  go_enter Tryz.func65, Tryz.ntmps65
  go_wp2_with (refine wpList_load_mid rfl 95 _ rfl 0 0 rfl NV _ HN.out Tryz.underlying95 rfl HI.out ?_)
  go_loopw [6] (fun i wr => ∃ k : Nat, k ≤ 18 ∧ i = .int .i64 k ∧ opOk l k ∧ w = wr) (fun i _ => 18 - (intOf i).toNat)
  case atStart => exact ⟨0, by omega, rfl, fun j hj => by omega, rfl⟩
  case round =>
    obtain ⟨k, hk, rfl, hok, rfl⟩ := hrel
    by_cases hlt : k < 18
    · have hki : ((k : Int) < 18) := by omega
      have hg := HG.out k hlt
      unfold sV at hg
      have hgs : k < NV.toArray.size := by rw [HLN.out]; exact hlt
      by_cases he : nmL.getD k [] = l
      · have HR : Hid _ := opOf_hit hlt hok he
        rw [he] at hg
        have hid := fun W => run_idx18 NV.toArray HLN.out k hlt _ hg W
        clear he hok hg
        go_wp2
        go_ret
        exact ⟨by rw [HR.out]; rfl, rfl⟩
      · have HOK : Hid (opOk l (k + 1)) := fun j hj => by
          by_cases e : j = k
          · rw [e]; exact he
          · exact hok j (by omega)
        have hb : (nmL.getD k [] == l) = false := by simpa using he
        generalize nmL.getD k [] = nk at *
        have hid := fun W => run_idx18 NV.toArray HLN.out k hlt _ hg W
        clear he hok hg
        go_wp2
        exact ⟨⟨k + 1, by omega, by go_num, HOK.out, trivial⟩, by simp [intOf]; omega⟩
    · have hk18 : k = 18 := by omega
      subst hk18
      have HR : Hid _ := opOf_none hok
      go_wp2
      go_ret
      exact ⟨by rw [HR.out]; rfl, rfl⟩
end Go.Proofs.YtkpjfhphohanlaaGreatDoor.JC
