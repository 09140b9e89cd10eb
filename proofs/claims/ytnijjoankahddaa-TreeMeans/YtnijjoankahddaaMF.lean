/- machine: contracts of Word and Read. -/
import Derived.Test.YtnijjoankahddaaME
set_option linter.unusedVariables false
set_option linter.unusedSimpArgs false
namespace Go.Proofs.Ytnijjoankahddaa.MC
open Go.RowKit

/-- The word at an address. -/
def wAt (l : List UInt8) (a : Nat) : Nat := W1.num ((l.drop a).take 8)
theorem read_nil (pv : Value) (q : Option Addr) (cap : Nat) (a m : Int) (w : World) (hl : Calls Try.prog 50 #[pv] w fun e w' => e = .returned (.slice q 0 cap) ∧ w = w') :
    Calls Try.prog 49 #[pv, .int .u64 a, .int .i64 m] w fun e w' => e = .returned (.tuple #[.slice none 0 0, .int .i64 1]) ∧ w = w' := by
  have hnn := none_of _ _ _ _ w hl
  rw [show decide ((0 : Nat) = 0) = true from rfl] at hnn
  have HNN : Hid _ := hnn
  clear hnn hl
  go_enter Try.func49, Try.ntmps49
  go_wp2_with fail
  refine Calls.mono HNN.out ?_
  rintro e w1 ⟨rfl, rfl⟩
  go_wp2
  go_ret2
  exact ⟨rfl, rfl⟩
theorem read_neg (mb gb n cap : Nat) (a m : Int) (l : List UInt8) (w : World) (h : PR w mb gb n cap l) (hm : m < 0) :
    Calls Try.prog 49 #[.pointer (some ⟨mb, 0, none⟩), .int .u64 a, .int .i64 m] w fun e w' => e = .returned (.tuple #[.slice none 0 0, .int .i64 2]) ∧ w = w' := by
  have hnn := none_of _ _ _ _ w (list_at mb _ w h.cell)
  rw [show decide (n = 0) = false by simp; have := h.pos; omega] at hnn
  have HNN : Hid _ := hnn
  clear hnn h
  go_enter Try.func49, Try.ntmps49
  go_wp2_with fail
  refine Calls.mono HNN.out ?_
  rintro e w1 ⟨rfl, rfl⟩
  go_wp2
  go_ret2
  exact ⟨rfl, rfl⟩
theorem read_bad (mb gb n cap a m : Nat) (l : List UInt8) (w : World) (h : PR w mb gb n cap l) (ha : a < 18446744073709551616) (hm : m ≤ 9223372036854775807) (hw : wIn n a m = false) :
    Calls Try.prog 49 #[.pointer (some ⟨mb, 0, none⟩), .int .u64 (a : Int), .int .i64 (m : Int)] w fun e w' => e = .returned (.tuple #[.slice none 0 0, .int .i64 6]) ∧ w = w' := by
  have hnn := none_of _ _ _ _ w (list_at mb _ w h.cell)
  rw [show decide (n = 0) = false by simp; have := h.pos; omega] at hnn
  have HNN : Hid _ := hnn
  have hwi := within_any mb n cap _ a m w h.cell h.le ha hm
  rw [hw] at hwi
  have HWI : Hid _ := hwi
  clear hnn h hwi hw
  go_enter Try.func49, Try.ntmps49
  go_wp2_with fail
  refine Calls.mono HNN.out ?_
  rintro e w1 ⟨rfl, rfl⟩
  go_wp2_with fail
  refine Calls.mono HWI.out ?_
  rintro e w1 ⟨rfl, rfl⟩
  go_wp2
  go_ret2
  exact ⟨rfl, rfl⟩
/-- Bytes of memory. -/
def rdB (l : List UInt8) (a m : Nat) : List UInt8 := (l.drop a).take m
set_option maxHeartbeats 4000000 in
set_option maxRecDepth 100000 in
theorem read_ok (mb gb n cap a m : Nat) (l : List UInt8) (w : World) (h : PR w mb gb n cap l) (ha : a < 18446744073709551616) (hm : m ≤ 9223372036854775807) (hw : wIn n a m = true) :
    Calls Try.prog 49 #[.pointer (some ⟨mb, 0, none⟩), .int .u64 (a : Int), .int .i64 (m : Int)] w fun e w' => e = .returned (.tuple #[.slice (some ⟨w.heap.size, 0, none⟩) m m, .int .i64 0]) ∧ w'.heap[w.heap.size]? = some (.cells ((rdB l a m).map B8).toArray 5 (0, 0)) ∧ Below w.heap.size w w' := by
  have hnn := none_of _ _ _ _ w (list_at mb _ w h.cell)
  rw [show decide (n = 0) = false by simp; have := h.pos; omega] at hnn
  have HNN : Hid _ := hnn
  have hwi := within_any mb n cap _ a m w h.cell h.le ha hm
  rw [hw] at hwi
  have HWI : Hid _ := hwi
  have hab : m = 0 ∨ a + m ≤ 128 * n := by
    unfold wIn at hw
    simp only [decide_eq_true_eq] at hw
    omega
  have hn4 := h.le
  have hm' : m ≤ 524288 := by omega
  have HRL : Hid ((rdB l a m).length = m) := by
    show _ = _
    unfold rdB
    rw [List.length_take, List.length_drop, h.len]; omega
  have HPR : Hid _ := h
  have hmb : mb < w.heap.size := block_lt h.cell
  have hgb := h.gb_lt
  obtain ⟨i0, hi, hz0, hz1, hz2⟩ := info_parts Try.infoU8
  clear hnn h hwi hw
  go_enter Try.func49, Try.ntmps49
  go_wp2_with fail
  refine Calls.mono HNN.out ?_
  rintro e w1 ⟨rfl, rfl⟩
  go_wp2_with fail
  refine Calls.mono HWI.out ?_
  rintro e w1 ⟨rfl, rfl⟩
  clear HNN HWI
  go_wp2_with (at_make; refine wpList_make_full _ rfl _ _ 91 rfl w.heap.size 5 i0 (.int .u8 0) 1 Try.underlying91 hi hz0 hz1 _ _ _ _ m rfl rfl (by omega) (by omega) ?b2 ?b3 (Nat.le_refl _) ?_)
  case b2 => rw [hz2]; omega
  case b3 => unfold maxLen; omega
  intro w0 hown0 hgrow0
  have hb0 : Below w.heap.size w w0 := (Below.refl _ _).grown hgrow0 (Nat.le_refl _) (fun k h => by cases h)
  have HR0 : Hid (w0.heap[w.heap.size]? = some (.cells ((splice (List.replicate m 0) 0 ((rdB l a m).take 0)).map B8).toArray 5 (0, 0))) := by
    show _ = _
    rw [List.take_zero, splice_nil]
    rcases hown0.2 with ⟨e1, e2⟩ | ⟨g, cap, cur, e1, e2, e3, e4, e5, e6, e7⟩
    · simp at e1
    · simp only [Value.slice.injEq, Option.some.injEq, Addr.mk.injEq] at e1
      obtain ⟨⟨rfl, _, _⟩, _, rfl⟩ := e1
      rw [e3]
      congr 2
      rw [← Array.toList_inj, List.toList_toArray]
      rw [toList_madeCells_one] at e7
      rw [List.take_of_length_le (by simp; omega)] at e7
      rw [e7, List.map_replicate]
      simp [B8]
  have HB0 : Hid _ := hb0
  clear hown0 hgrow0 hb0 hz0 hz1 hz2 hi
  go_wp2
  go_loopw [9] (fun i wr => ∃ k : Nat, k ≤ m ∧ i = .int .i64 k ∧ wr.heap[w.heap.size]? = some (.cells ((splice (List.replicate m 0) 0 ((rdB l a m).take k)).map B8).toArray 5 (0, 0)) ∧ Below w.heap.size w wr) (fun i _ => m - (intOf i).toNat)
  case atStart => exact ⟨0, Nat.zero_le _, rfl, HR0.out, HB0.out⟩
  case round =>
    clear HR0 HB0
    obtain ⟨k, hk, rfl, hR, hB⟩ := hrel
    by_cases hlt : k < m
    · obtain ⟨G, hG⟩ : ∃ G, G = (a + k) / 128 := ⟨_, rfl⟩
      obtain ⟨AT, hAT⟩ : ∃ AT, AT = (a + k) % 128 := ⟨_, rfl⟩
      have hat : AT < 128 := by omega
      have hGA : G * 128 + AT = a + k := by omega
      have hgn : G < n := by omega
      have hsum : ((a : Int) + (k : Int)) = ((G * 128 + AT : Nat) : Int) := by omega
      obtain ⟨c, hc⟩ : ∃ c, c = Nat.min (128 - AT) (m - k) := ⟨_, rfl⟩
      have hc1 : c ≤ m - k := by rw [hc]; exact Nat.min_le_right _ _
      have hc2 : c ≤ 128 - AT := by rw [hc]; exact Nat.min_le_left _ _
      have hc0 : 0 < c := by rw [hc]; exact Nat.lt_min.2 ⟨by omega, by omega⟩
      obtain ⟨CS, hCS⟩ : ∃ CS, CS = (((rdB l a m).drop k).take c).map B8 := ⟨_, rfl⟩
      have hCL : CS.length = c := by rw [hCS, List.length_map, List.length_take, List.length_drop, HRL.out]; omega
      have HCN : Hid (CS.length = Nat.min (128 - AT) (m - k)) := hCL.trans hc
      have HCL : Hid _ := hCL
      have HC1 : Hid (∀ v ∈ CS, v.oneCell' = true) := by rw [hCS]; exact B8_one _
      have hPR := HPR.out.below hB
      have HCE : Hid (∀ W, KB w.heap.size wr W → W.cell? ⟨mb, 0, none⟩ = some (.slice (some ⟨gb, 0, none⟩) n cap)) := fun W hW => by
        rw [World.cell?_of_block (w := wr) (a := ⟨mb, 0, none⟩) (hW.2 mb (block_lt hPR.cell) (by omega))]; exact hPR.cell
      have HSR : Hid (∀ j v, CS[j]? = some v → wr.drew.cell? ((⟨gb, G * 128 + AT, none⟩ : Addr).add j) = some v) := fun j v hv => by
        rw [add_none]
        have hrr : wr.drew.rangeAt gb 0 (l.map B8) := hPR.row
        have := rangeAt_part hrr (a + k) c j v (by
          rw [← hv, hCS]
          unfold rdB
          rw [List.map_take, List.map_drop, List.map_take, List.map_drop, List.drop_take, List.drop_drop, List.take_take, Nat.min_eq_left (by omega)])
        rw [← hGA, Nat.zero_add] at this
        exact this
      obtain ⟨CUR, hCUR⟩ : ∃ L, L = splice (List.replicate m 0) 0 ((rdB l a m).take k) := ⟨_, rfl⟩
      rw [← hCUR] at hR
      have hcl : CUR.length = m := by rw [hCUR, splice_len _ _ _ (by rw [List.length_take, HRL.out, List.length_replicate]; omega), List.length_replicate]
      have HROW : Hid (wr.drew.heap[w.heap.size]? = some (.cells (CUR.map B8).toArray 5 (0, 0))) := by rw [heap_drew]; exact hR
      have HFIT : Hid (0 + k + CS.length ≤ (CUR.map B8).length) := by show _ ≤ _; rw [HCL.out, List.length_map, hcl]; omega
      have HEND : Hid ((wr.drew.setRow w.heap.size (splice (CUR.map B8) (0 + k) CS).toArray).heap[w.heap.size]? = some (.cells ((splice (List.replicate m 0) 0 ((rdB l a m).take (k + c))).map B8).toArray 5 (0, 0))) := by
        show _ = _
        rw [setRow_heap _ _ _ _ _ _ HROW.out, hCS, splice_map, hCUR, splice_step _ _ _ _ _ (by rw [HRL.out, List.length_replicate]; omega) (by rw [HRL.out]; omega)]
      have hs1 := fun W => slice_gr W gb (G * 128) AT hat
      have hs2 := fun W => slice_off W w.heap.size 0 m m k hk (by omega)
      have hs3 := fun W => slice_offA W w.heap.size 0 m m k hk (by omega)
      have HKK : Hid (Below w.heap.size w wr) := hB
      have hsz := hB.size
      have HOF : Hid _ := of_at ((a : Int) + (k : Int)) G AT wr hsum hat (by omega)
      clear hCS hCL hR hB hCUR hG hAT hc hsum hPR
      go_wp2_with fail
      refine Calls.mono HOF.out ?_
      rintro e w1 ⟨rfl, rfl⟩
      go_wp2
      refine wp_region_held_drew (S := KB w.heap.size wr) (by kernel_rfl) (KB.drew (KB.refl _ _)) (fun hHeld => ?_)
      refine wpAnyH_take (i := 0) (oi := { dst := some 34, op := Go.Op.move (Go.Operand.tmp 9), type := 3, pos := _, after := #[], guard := none }) (v := .int .i64 (k : Int)) rfl (by kernel_rfl) (by kernel_rfl) (by kernel_rfl) (fun _ _ _ h => h) (Or.inl ⟨by rfl, fun w' hw' => ?_⟩) hHeld ?_
      · first | (go_simp; done) | (go_simp; rfl)
      try simp only [Act.put, List.setIfInBounds_toArray, List.set_cons_zero, List.set_cons_succ]
      refine wpAnyH_take (i := 1) (oi := { dst := some 35, op := Go.Op.move (Go.Operand.tmp 8), type := 91, pos := _, after := #[], guard := none }) (v := .slice (some ⟨w.heap.size, 0, none⟩) m m) rfl (by kernel_rfl) (by kernel_rfl) (by kernel_rfl) (fun _ _ _ h => h) (Or.inl ⟨by rfl, fun w' hw' => ?_⟩) hHeld ?_
      · first | (go_simp; done) | (go_simp; rfl)
      try simp only [Act.put, List.setIfInBounds_toArray, List.set_cons_zero, List.set_cons_succ]
      refine wpAnyH_take (i := 2) (oi := { dst := some 36, op := Go.Op.move (Go.Operand.tmp 9), type := 3, pos := _, after := #[], guard := none }) (v := .int .i64 (k : Int)) rfl (by kernel_rfl) (by kernel_rfl) (by kernel_rfl) (fun _ _ _ h => h) (Or.inl ⟨by rfl, fun w' hw' => ?_⟩) hHeld ?_
      · first | (go_simp; done) | (go_simp; rfl)
      try simp only [Act.put, List.setIfInBounds_toArray, List.set_cons_zero, List.set_cons_succ]
      refine wpAnyH_take (i := 3) (oi := { dst := some 37, op := Go.Op.slice 91 (Go.Operand.tmp 35) (some (Go.Operand.tmp 36)) none none, type := 91, pos := _, after := #[{ on := 1, ground := Go.Ground.data }, { on := 2, ground := Go.Ground.data }], guard := none }) (v := .slice (some ⟨w.heap.size, 0 + k, none⟩) (m - k) (m - k)) rfl (by kernel_rfl) (by kernel_rfl) (by kernel_rfl) (fun _ _ _ h => h) (Or.inl ⟨by rfl, fun w' hw' => ?_⟩) hHeld ?_
      · first | (go_simp; done) | (go_simp; rfl)
      try simp only [Act.put, List.setIfInBounds_toArray, List.set_cons_zero, List.set_cons_succ]
      refine wpAnyH_take (i := 4) (oi := { dst := some 38, op := Go.Op.move (Go.Operand.tmp 0), type := 35, pos := _, after := #[], guard := none }) (v := .pointer (some ⟨mb, 0, none⟩)) rfl (by kernel_rfl) (by kernel_rfl) (by kernel_rfl) (fun _ _ _ h => h) (Or.inl ⟨by rfl, fun w' hw' => ?_⟩) hHeld ?_
      · first | (go_simp; done) | (go_simp; rfl)
      try simp only [Act.put, List.setIfInBounds_toArray, List.set_cons_zero, List.set_cons_succ]
      refine wpAnyH_take (i := 5) (oi := { dst := some 39, op := Go.Op.nilCheck (Go.Operand.tmp 38), type := 0, pos := _, after := #[{ on := 4, ground := Go.Ground.data }], guard := none }) (v := .pointer (some ⟨mb, 0, none⟩)) rfl (by kernel_rfl) (by kernel_rfl) (by kernel_rfl) (fun _ _ _ h => h) (Or.inl ⟨by rfl, fun w' hw' => ?_⟩) hHeld ?_
      · first | (go_simp; done) | (go_simp; rfl)
      try simp only [Act.put, List.setIfInBounds_toArray, List.set_cons_zero, List.set_cons_succ]
      refine wpAnyH_take (i := 6) (oi := { dst := some 40, op := Go.Op.fieldAddr 87 (Go.Operand.tmp 39) 0, type := 0, pos := _, after := #[{ on := 5, ground := Go.Ground.data }], guard := none }) (v := .pointer (some ⟨mb, 0, none⟩)) rfl (by kernel_rfl) (by kernel_rfl) (by kernel_rfl) (fun _ _ _ h => h) (Or.inl ⟨by rfl, fun w' hw' => ?_⟩) hHeld ?_
      · first | (go_simp; done) | (go_simp; rfl)
      try simp only [Act.put, List.setIfInBounds_toArray, List.set_cons_zero, List.set_cons_succ]
      refine wpAnyH_take (i := 7) (oi := { dst := some 41, op := Go.Op.load 25 (Go.Operand.tmp 40), type := 25, pos := _, after := #[{ on := 6, ground := Go.Ground.data }], guard := none }) (v := .slice (some ⟨gb, 0, none⟩) n cap) rfl (by kernel_rfl) (by kernel_rfl) (by kernel_rfl) (fun _ _ _ h => h) (Or.inl ⟨by rfl, fun w' hw' => ?_⟩) hHeld ?_
      · have hcc := HCE.out _ hw'; first | (go_simp; done) | (go_simp; rfl)
      try simp only [Act.put, List.setIfInBounds_toArray, List.set_cons_zero, List.set_cons_succ]
      refine wpAnyH_take (i := 8) (oi := { dst := some 42, op := Go.Op.move (Go.Operand.tmp 10), type := 3, pos := _, after := #[], guard := none }) (v := .int .i64 (G : Int)) rfl (by kernel_rfl) (by kernel_rfl) (by kernel_rfl) (fun _ _ _ h => h) (Or.inl ⟨by rfl, fun w' hw' => ?_⟩) hHeld ?_
      · first | (go_simp; done) | (go_simp; rfl)
      try simp only [Act.put, List.setIfInBounds_toArray, List.set_cons_zero, List.set_cons_succ]
      refine wpAnyH_take (i := 9) (oi := { dst := some 43, op := Go.Op.indexAddr 25 (Go.Operand.tmp 41) (Go.Operand.tmp 42), type := 0, pos := _, after := #[{ on := 7, ground := Go.Ground.data }, { on := 8, ground := Go.Ground.data }], guard := none }) (v := .pointer (some ⟨gb, G * 128, none⟩)) rfl (by kernel_rfl) (by kernel_rfl) (by kernel_rfl) (fun _ _ _ h => h) (Or.inl ⟨by rfl, fun w' hw' => ?_⟩) hHeld ?_
      · first | (go_simp; done) | (go_simp; rfl)
      try simp only [Act.put, List.setIfInBounds_toArray, List.set_cons_zero, List.set_cons_succ]
      refine wpAnyH_take (i := 10) (oi := { dst := some 44, op := Go.Op.move (Go.Operand.tmp 11), type := 3, pos := _, after := #[], guard := none }) (v := .int .i64 (AT : Int)) rfl (by kernel_rfl) (by kernel_rfl) (by kernel_rfl) (fun _ _ _ h => h) (Or.inl ⟨by rfl, fun w' hw' => ?_⟩) hHeld ?_
      · first | (go_simp; done) | (go_simp; rfl)
      try simp only [Act.put, List.setIfInBounds_toArray, List.set_cons_zero, List.set_cons_succ]
      refine wpAnyH_take (i := 11) (oi := { dst := some 45, op := Go.Op.slice 68 (Go.Operand.tmp 43) (some (Go.Operand.tmp 44)) none none, type := 91, pos := _, after := #[{ on := 9, ground := Go.Ground.data }, { on := 10, ground := Go.Ground.data }], guard := none }) (v := .slice (some ⟨gb, G * 128 + AT, none⟩) (128 - AT) (128 - AT)) rfl (by kernel_rfl) (by kernel_rfl) (by kernel_rfl) (fun _ _ _ h => h) (Or.inl ⟨by rfl, fun w' hw' => ?_⟩) hHeld ?_
      · first | (go_simp; done) | (go_simp; rfl)
      try simp only [Act.put, List.setIfInBounds_toArray, List.set_cons_zero, List.set_cons_succ]
      refine wpAnyH_ready (rs := [12]) (by kernel_rfl) (by simp) ?_
      refine AllReadyH.cons (o := { dst := some 46, op := Go.Op.call { callee := Go.Callee.builtin Go.Builtin.copy, args := #[Go.Operand.tmp 37, Go.Operand.tmp 45], argTypes := #[91, 91] }, type := 3, pos := _, after := #[{ on := 3, ground := Go.Ground.data }, { on := 11, ground := Go.Ground.data }], guard := none }) rfl (fun K hK => ?_) AllReadyH.nil
      rw [if_pos (by rfl)]
      refine wp_copy_seg _ _ rfl w.heap.size (0 + k) (m - k) (m - k) (some ⟨gb, G * 128 + AT, none⟩) (128 - AT) (128 - AT) rfl rfl (CUR.map B8) 5 HROW.out CS HCN.out (fun _ => ⟨_, rfl, HSR.out⟩) HFIT.out HC1.out ?_
      have hK2 := KB.set hHeld (splice (CUR.map B8) (0 + k) CS).toArray
      rw [HCL.out]
      refine hK.out _ _ hK2 (fun _ => ?_)
      clear hK K
      try simp only [Act.put, List.setIfInBounds_toArray, List.set_cons_zero, List.set_cons_succ]
      clear hHeld
      have hHeld := hK2
      refine wpAnyH_take (i := 13) (oi := { dst := some 47, op := Go.Op.binOp Go.BinOp.add 3 (Go.Operand.tmp 34) (Go.Operand.tmp 46) 3, type := 3, pos := _, after := #[{ on := 0, ground := Go.Ground.data }, { on := 12, ground := Go.Ground.data }], guard := none }) (v := .int .i64 ((k : Int) + (c : Int))) rfl (by kernel_rfl) (by kernel_rfl) (by kernel_rfl) (fun _ _ _ h => h) (Or.inl ⟨by rfl, fun w' hw' => ?_⟩) hHeld ?_
      · first | (go_simp; done) | (go_simp; exact wrap_i64_in _ (by omega) (by omega))
      try simp only [Act.put, List.setIfInBounds_toArray, List.set_cons_zero, List.set_cons_succ]
      refine wpAnyH_take (i := 14) (oi := { dst := some 9, op := Go.Op.assign (Go.Operand.tmp 47), type := 3, pos := _, after := #[{ on := 13, ground := Go.Ground.data }, { on := 12, ground := Go.Ground.chain }, { on := 0, ground := Go.Ground.phase }, { on := 1, ground := Go.Ground.phase }, { on := 2, ground := Go.Ground.phase }, { on := 3, ground := Go.Ground.phase }, { on := 4, ground := Go.Ground.phase }, { on := 5, ground := Go.Ground.phase }, { on := 6, ground := Go.Ground.phase }, { on := 7, ground := Go.Ground.phase }, { on := 8, ground := Go.Ground.phase }, { on := 9, ground := Go.Ground.phase }, { on := 10, ground := Go.Ground.phase }, { on := 11, ground := Go.Ground.phase }, { on := 12, ground := Go.Ground.phase }, { on := 13, ground := Go.Ground.phase }], guard := none }) (v := .int .i64 ((k : Int) + (c : Int))) rfl (by kernel_rfl) (by kernel_rfl) (by kernel_rfl) (fun _ _ _ h => h) (Or.inl ⟨by rfl, fun w' hw' => ?_⟩) hHeld ?_
      · first | (go_simp; done) | (go_simp; rfl)
      try simp only [Act.put, List.setIfInBounds_toArray, List.set_cons_zero, List.set_cons_succ]
      refine wpAnyH_done (by kernel_rfl) ?_ _
      go_wp2
      go_roundw
      case rel => exact ⟨k + c, by omega, by go_num, HEND.out, HKK.out.trans hK2.1⟩
      case measure => simp [intOf]; omega
    · have hke : k = m := by omega
      subst hke
      rw [List.take_of_length_le (by rw [HRL.out]; omega)] at hR
      have e : splice (List.replicate k (0 : UInt8)) 0 (rdB l a k) = rdB l a k := by
        unfold splice
        rw [List.drop_eq_nil_of_le (by rw [HRL.out, List.length_replicate]; omega)]
        simp
      rw [e] at hR
      have HRR : Hid _ := hR
      have HBB : Hid _ := hB
      clear hR hB e
      go_wp2
      go_ret2
      exact ⟨rfl, HRR.out, HBB.out⟩
end Go.Proofs.Ytnijjoankahddaa.MC
