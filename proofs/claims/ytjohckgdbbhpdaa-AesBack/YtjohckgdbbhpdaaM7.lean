/- Contract of aes's mixed. -/
import Derived.Test.YtjohckgdbbhpdaaL7
import Derived.Laws.IdiomCopy
set_option linter.unusedVariables false
set_option linter.unusedSimpArgs false
namespace Go.Proofs.Ytjohckgdbbhpdaa
open Go.RowKit

/-- Column c of a block. -/
def colA (s : List UInt8) (c : Nat) : List UInt8 := (s.drop (4 * c)).take 4
theorem colA_len (s : List UInt8) (c : Nat) (hs : s.length = 16) (hc : c < 4) : (colA s c).length = 4 := by unfold colA; simp [hs]; omega
/-- A block of which the first c columns are mixed. -/
def mdP (s f : List UInt8) (c : Nat) : List UInt8 := (List.range 16).map fun j => if j < 4 * c then mcS (colA s (j / 4)) f (j % 4) 4 else s.getD j 0
/-- A block, each column mixed. -/
def mdA (s f : List UInt8) : List UInt8 := (List.range 16).map fun j => mcS (colA s (j / 4)) f (j % 4) 4
theorem mdP_len (s f : List UInt8) (c : Nat) : (mdP s f c).length = 16 := by unfold mdP; simp
theorem mdA_len (s f : List UInt8) : (mdA s f).length = 16 := by unfold mdA; simp
theorem mdP_all (s f : List UInt8) : mdP s f 4 = mdA s f := by
  unfold mdP mdA
  apply List.map_congr_left
  intro j hj
  have : j < 16 := List.mem_range.1 hj
  rw [if_pos (by omega)]
theorem mdP_start (s f : List UInt8) (hs : s.length = 16) : mdP s f 0 = s := by
  unfold mdP
  apply List.ext_getElem
  · simp [hs]
  · intro n h1 h2
    simp [List.getD, List.getElem?_eq_getElem h2]
theorem mdP_at (s f : List UInt8) (c n : Nat) (h : n < (mdP s f c).length) : (mdP s f c)[n] = if n < 4 * c then mcS (colA s (n / 4)) f (n % 4) 4 else s.getD n 0 := by simp [mdP]
theorem mcA_at (s f : List UInt8) (n : Nat) (h : n < (mcA s f).length) : (mcA s f)[n] = mcS s f n 4 := by simp [mcA]
theorem colA_at (s : List UInt8) (c n : Nat) (h : n < (colA s c).length) (h2 : 4 * c + n < s.length) : (colA s c)[n] = s[4 * c + n] := by simp [colA]
theorem mdP_col (s f : List UInt8) (c : Nat) (hs : s.length = 16) (hc : c < 4) : colA (mdP s f c) c = colA s c := by
  apply List.ext_getElem
  · rw [colA_len _ c (mdP_len s f c) hc, colA_len s c hs hc]
  · intro n h1 h2
    have h3 := h1
    rw [colA_len _ c (mdP_len s f c) hc] at h3
    have hb : 4 * c + n < s.length := by omega
    have hb2 : 4 * c + n < (mdP s f c).length := by rw [mdP_len]; omega
    rw [colA_at _ c n h1 hb2, colA_at s c n h2 hb, mdP_at, if_neg (by omega)]
    simp [List.getD, List.getElem?_eq_getElem hb]
theorem mdP_next (s f : List UInt8) (c : Nat) (hs : s.length = 16) (hc : c < 4) : splice ((mdP s f c).map B8) (4 * c) ((mcA (colA s c) f).map B8) = (mdP s f (c + 1)).map B8 := by
  have e : splice (mdP s f c) (4 * c) (mcA (colA s c) f) = mdP s f (c + 1) := by
    unfold splice
    have hl := mdP_len s f c
    have hm := mcA_len (colA s c) f
    apply List.ext_getElem
    · simp [hl, hm, mdP_len]; omega
    · intro n h1 h2
      have h2' := h2
      rw [mdP_len] at h2'
      rw [mdP_at]
      by_cases h3 : n < 4 * c
      · rw [List.getElem_append_left (by simp [hl]; omega), List.getElem_take, mdP_at, if_pos h3, if_pos (by omega)]
      · have ht : ((mdP s f c).take (4 * c)).length = 4 * c := by simp [hl]; omega
        rw [List.getElem_append_right (by omega)]
        by_cases h4 : n < 4 * c + 4
        · rw [List.getElem_append_left (by omega), mcA_at, if_pos (by omega), ht, show n / 4 = c by omega, show n % 4 = n - 4 * c by omega]
        · rw [List.getElem_append_right (by omega), List.getElem_drop, mdP_at, if_neg (by omega), if_neg (by omega)]
          congr 1
          omega
  rw [← e]
  unfold splice
  simp only [List.map_append, List.map_take, List.map_drop, List.length_map]
theorem colA_range {w : World} {b : Nat} {s : List UInt8} {ty : TypeId} {fr : Nat × Nat} (c : Nat) (h : w.heap[b]? = some (.cells (s.map B8).toArray ty fr)) : w.rangeAt b (4 * c) ((colA s c).map B8) := fun j v hv => by
  rw [cell_of_row _ _ (4 * c + j) _ _ _ h]
  unfold colA at hv
  simp only [List.getElem?_map, List.getElem?_take, List.getElem?_drop] at hv
  by_cases hj : j < 4
  · rw [if_pos hj] at hv
    simp only [List.getElem?_toArray, List.getElem?_map]
    exact hv
  · rw [if_neg hj] at hv; simp at hv
theorem sliceFrom16 (w : World) (b k : Nat) (hk : k < 16) : (Instr.sliceAt 26 (.pointer (some ⟨b, 0, none⟩)) (some (.int .i64 (k : Int))) none none).run Try.prog w = .ok (.slice (some ⟨b, k, none⟩) (16 - k) (16 - k)) w := by
  have ha : Try.prog.arrayLen 26 = 16 := by kernel_rfl
  have hu : Try.prog.underlying 26 = some (.array (Try.prog.arrayLen 26) (Try.prog.elem 26)) := by kernel_rfl
  have he : Try.prog.elem 26 = 5 := by kernel_rfl
  rw [run_sliceAt_array_l w 26 _ hu .i64 _ (by omega) (by rw [ha]; omega), he, size_u8, ha]
  have hne : 16 - k ≠ 0 := by omega
  have hadd : (⟨b, 0, none⟩ : Addr).add (k * 1) = ⟨b, k, none⟩ := by unfold Addr.add; split <;> simp_all
  have hadd' : (⟨b, 0, none⟩ : Addr).add k = ⟨b, k, none⟩ := by unfold Addr.add; split <;> simp_all
  simp [Result.andThen, slicedAt, hadd, hadd', hne]
  omega
theorem slice4 (w : World) (b : Nat) : (Instr.sliceAt 52 (.pointer (some ⟨b, 0, none⟩)) none none none).run Try.prog w = .ok (.slice (some ⟨b, 0, none⟩) 4 4) w := by
  have ha : Try.prog.arrayLen 52 = 4 := by kernel_rfl
  have hu : Try.prog.underlying 52 = some (.array (Try.prog.arrayLen 52) (Try.prog.elem 52)) := by kernel_rfl
  have he : Try.prog.elem 52 = 5 := by kernel_rfl
  rw [run_sliceAt_array_all w 52 _ hu, he, size_u8, ha]
  have hadd : (⟨b, 0, none⟩ : Addr).add (0 * 1) = ⟨b, 0, none⟩ := by unfold Addr.add; split <;> simp_all
  simp [Result.andThen, slicedAt, hadd]
theorem slArr4 (w : World) (a : Option Addr) (len cap : Nat) (h : 4 ≤ len) : (Instr.arrayAt 52 (.slice a len cap)).run Try.prog w = .ok (.pointer a) w := by
  have hn : ¬ len < 4 := by omega
  simp [Instr.arrayAt, run_underlying Try.underlying52, hn]

theorem wp_copy_seg7 {op : Oper} {a : Act} {w : World} {K : Act → World → Prop} {Q : Exit → Act → World → Prop} (d s : Operand) (ho : op.op = .call { callee := .builtin .copy, args := #[d, s], argTypes := #[36, 36] })
    (b o dLen dCap : Nat) (sp : Option Addr) (sLen sCap : Nat) (hd : a.eval d = .slice (some ⟨b, o, none⟩) dLen dCap) (hs : a.eval s = .slice sp sLen sCap) (cur : List Value) (t : TypeId) (hg : w.heap[b]? = some (.cells cur.toArray t (0, 0)))
    (cs : List Value) (hn : cs.length = Nat.min sLen dLen) (hpos : 0 < cs.length → ∃ ad, sp = some ad ∧ ∀ j v, cs[j]? = some v → w.cell? (ad.add j) = some v) (hfit : o + cs.length ≤ cur.length) (h1 : ∀ v ∈ cs, v.oneCell' = true)
    (h : K (a.put op.dst (goInt cs.length)) (w.setRow b (splice cur o cs).toArray)) : op.wp Try.prog a w K Q := by
  by_cases h0 : cs.length = 0
  · obtain rfl : cs = [] := List.eq_nil_of_length_eq_zero h0
    have hrun := run_copy_none (P := Try.prog) w 36 36 op.type 5 (some ⟨b, o, none⟩) sp dLen dCap sLen sCap Try.underlying36 (by kernel_rfl) (by simpa using hn.symm)
    have e : w.setRow b (splice cur o []).toArray = w := by
      have : splice cur o [] = cur := by simp [splice]
      rw [this]; exact setRow_self w b cur.toArray t (0, 0) hg
    rw [e] at h
    unfold Oper.wp
    simp [execOp, ho, resolve, invoke, builtin, hd, hs, hrun, Result.andThen]
    exact h
  · obtain ⟨ad, rfl, hsrc⟩ := hpos (by omega)
    have hrun := run_copy_row (P := Try.prog) w 36 36 op.type 5 b o dLen dCap ad sLen sCap cur.toArray t cs Try.underlying36 (by kernel_rfl) hg hn hsrc (by simpa using hfit) h1
    have e : (cur.toArray.toList.take o ++ cs ++ cur.toArray.toList.drop (o + cs.length)).toArray = (splice cur o cs).toArray := by simp [splice]
    rw [e] at hrun
    unfold Oper.wp
    simp [execOp, ho, resolve, invoke, builtin, hd, hs, hrun, Result.andThen]
    exact h

/-- Where mixed stands: its block, its result. -/
def M2 (w : World) (ZA : Array Value) (l : List UInt8) (wr : World) : Prop :=
  wr.heap[w.heap.size]? = some (.cells (l.map B8).toArray 26 (0, 0)) ∧ wr.heap[w.heap.size + 1]? = some (.cells ZA 26 (0, 0)) ∧ Below w.heap.size w wr ∧ w.heap.size + 2 ≤ wr.heap.size

set_option maxHeartbeats 4000000 in
set_option maxRecDepth 100000 in
theorem pmixed_any (s f : List UInt8) (b : Nat) (w : World) (hs : s.length = 16) (hf : f.length = 4) (hc : w.heap[b]? = some (.cells (f.map B8).toArray 52 (0, 0))) :
    Calls Try.prog 41 #[.agg (s.map B8).toArray, .func (.func 45) #[] #[.pointer (some ⟨b, 0, none⟩)]] w fun e w' => e = .returned (.agg ((mdA s f).map B8).toArray) ∧ Below w.heap.size w w' := by
  have hcl : b < w.heap.size := (Array.getElem?_eq_some_iff.1 hc).1
  have HMX : Hid (∀ l W, l.length = 4 → Below w.heap.size w W → Calls Try.prog 45 #[.agg (l.map B8).toArray, .pointer (some ⟨b, 0, none⟩)] W fun e w' => e = .returned (.agg ((mcA l f).map B8).toArray) ∧ Below W.heap.size W w') := fun l W hl hb => pmixer1_any l f b W hl hf ((hb.block b hcl).trans hc)
  have HCL : Hid _ := fun c hc => colA_len s c hs hc
  have HPC : Hid _ := fun c hc => mdP_col s f c hs hc
  have HPN : Hid _ := fun c hc => mdP_next s f c hs hc
  have HPL : Hid _ := fun c => mdP_len s f c
  have HPA : Hid _ := mdP_all s f
  have HLN : Hid _ := mdA_len s f
  have HP0 : Hid _ := mdP_start s f hs
  obtain ⟨SA, hSA⟩ : ∃ SA, SA = (s.map B8).toArray := ⟨_, rfl⟩
  obtain ⟨ZA, hZA⟩ : ∃ ZA : Array Value, ZA = Array.replicate 16 (.int .u8 0) := ⟨_, rfl⟩
  have HZS : Hid (ZA.size = 16) := by show _ = _; rw [hZA]; simp
  rw [← hSA]
  have HST : Hid (M2 w (Array.replicate 16 (.int .u8 0)) (mdP s f 0) ((w.alloc (.cells SA 26 (0, 0))).alloc (.cells (Array.replicate 16 (.int .u8 0)) 26 (0, 0)))) := by
    refine ⟨?_, heap_at _ _ _ (by simp), ((Below.refl _ _).alloc (Nat.le_refl _) _).alloc (by simp) _, by simp⟩
    rw [HP0.out, ← hSA]; exact alloc2_first _ _ _
  clear hs hf hSA hc
  go_enter Try.func41, Try.ntmps41
  go_wp2
  go_loopw [7] (fun i wr => ∃ c : Nat, c ≤ 4 ∧ i = .int .i64 c ∧ M2 w ZA (mdP s f c) wr) (fun i _ => 4 - (intOf i).toNat)
  case atStart => exact ⟨0, by omega, rfl, by rw [hZA]; exact HST.out⟩
  case round =>
    clear HST hZA
    obtain ⟨c, hc, rfl, hM⟩ := hrel
    by_cases hlt : c < 4
    · have hcI : (c : Int) < 4 := by omega
      have HRG : Hid _ := colA_range c hM.1
      rw [HPC.out c hlt] at HRG
      have HL4 : Hid _ := HCL.out c hlt
      have hmx := HMX.out (colA s c) wr HL4.out hM.2.2.1
      have hpn := HPN.out c hlt
      obtain ⟨CL, hCL⟩ : ∃ CL, CL = (colA s c).map B8 := ⟨_, rfl⟩
      have HIP : Hid ((Try.prog.info? 52).map (·.size) = some CL.length) := by show _ = _; rw [hCL, List.length_map, HL4.out]; kernel_rfl
      rw [← hCL] at HRG hmx
      have HM0 : Hid _ := hM
      have hsz := hM.2.2.2
      have q0 : IntKind.i64.wrap ((c : Int) * 4) = 4 * (c : Int) := by rw [wrap_i64_7 _ (by omega) (by omega)]; omega
      have hs16 := fun W => sliceFrom16 W w.heap.size (4 * c) (by omega)
      rw [show ((4 * c : Nat) : Int) = 4 * (c : Int) by omega] at hs16
      have hsa := fun W => slArr4 W (some ⟨w.heap.size, 4 * c, none⟩) (16 - 4 * c) (16 - 4 * c) (by omega)
      have hMC : (mcA (colA s c) f).length = 4 := mcA_len _ _
      generalize mcA (colA s c) f = MC at *
      obtain ⟨MA, hMA⟩ : ∃ MA, MA = (MC.map B8).toArray := ⟨_, rfl⟩
      have hM8 : MA.size = 4 := by rw [hMA]; simp [hMC]
      have HMI : Hid _ := info4 MA hM8
      have HM1 : Hid (MA.all (·.oneCell') = true) := by show _ = _; rw [hMA]; exact B8_onea _
      have HM8 : Hid _ := hM8
      have HPN1 : Hid (splice ((mdP s f c).map B8) (4 * c) MA.toList = (mdP s f (c + 1)).map B8) := by show _ = _; rw [hMA]; exact hpn
      rw [← hMA] at hmx
      clear hM hCL hMA hM8 hpn hMC
      go_wp2_with (first
        | (refine wpList_load_mid rfl 52 _ rfl w.heap.size (4 * c) rfl CL _ HRG.out Try.underlying52 rfl HIP.out ?_))
      refine hmx.mono ?_
      rintro e w2 ⟨rfl, hb2⟩
      have hsz2 : w.heap.size + 2 ≤ w2.heap.size := by have := hb2.size; omega
      have HB2 : Hid (Below w.heap.size w w2) := HM0.out.2.2.1.trans (hb2.mono (by omega))
      have HR1 : Hid (w2.heap[w.heap.size]? = some (.cells ((mdP s f c).map B8).toArray 26 (0, 0))) := (hb2.block _ (by omega)).trans HM0.out.1
      have HR2 : Hid (w2.heap[w.heap.size + 1]? = some (.cells ZA 26 (0, 0))) := (hb2.block _ (by omega)).trans HM0.out.2.1
      clear hb2 hmx HM0 HRG
      have hq : (w2.alloc (.cells #[.int .u8 0, .int .u8 0, .int .u8 0, .int .u8 0] 52 (0, 0))).heap[w2.heap.size]? = some (.cells #[.int .u8 0, .int .u8 0, .int .u8 0, .int .u8 0] 52 (0, 0)) := heap_at _ _ _ rfl
      have HQ : Hid _ := hq
      clear hq
      go_wp2_with (first
        | (refine wpList_store_row rfl 52 _ _ rfl w2.heap.size MA rfl rfl 52 _ HQ.out HMI.out (by rw [HM8.out]; rfl) HM1.out ?_))
      have HB3 : Hid (Below w2.heap.size w2 ((w2.alloc (.cells #[.int .u8 0, .int .u8 0, .int .u8 0, .int .u8 0] 52 (0, 0))).setRow w2.heap.size MA)) := below_setRow ((Below.refl _ _).alloc (Nat.le_refl _) _) (Nat.le_refl _) _
      have HQ3 : Hid (((w2.alloc (.cells #[.int .u8 0, .int .u8 0, .int .u8 0, .int .u8 0] 52 (0, 0))).setRow w2.heap.size MA).heap[w2.heap.size]? = some (.cells MA 52 (0, 0))) := setRow_heap _ _ _ _ _ _ HQ.out
      have HBW : Hid (Below w.heap.size w ((w2.alloc (.cells #[.int .u8 0, .int .u8 0, .int .u8 0, .int .u8 0] 52 (0, 0))).setRow w2.heap.size MA)) := HB2.out.trans (HB3.out.mono (by omega))
      have HR13 : Hid (((w2.alloc (.cells #[.int .u8 0, .int .u8 0, .int .u8 0, .int .u8 0] 52 (0, 0))).setRow w2.heap.size MA).heap[w.heap.size]? = some (.cells ((mdP s f c).map B8).toArray 26 (0, 0))) := (HB3.out.block _ (by omega)).trans HR1.out
      have HR23 : Hid (((w2.alloc (.cells #[.int .u8 0, .int .u8 0, .int .u8 0, .int .u8 0] 52 (0, 0))).setRow w2.heap.size MA).heap[w.heap.size + 1]? = some (.cells ZA 26 (0, 0))) := (HB3.out.block _ (by omega)).trans HR2.out
      have hsW : w2.heap.size < ((w2.alloc (.cells #[.int .u8 0, .int .u8 0, .int .u8 0, .int .u8 0] 52 (0, 0))).setRow w2.heap.size MA).heap.size := by simp
      have hs4 := fun W => slice4 W w2.heap.size
      clear HB3 HQ HR1 HR2 HB2
      generalize ((w2.alloc (.cells #[.int .u8 0, .int .u8 0, .int .u8 0, .int .u8 0] 52 (0, 0))).setRow w2.heap.size MA) = W at *
      generalize w2.heap.size = g at *
      refine wp_region_held_drew (S := fun w' => Below w.heap.size w w') (by kernel_rfl) HBW.out.drew (fun hHeld => ?_)
      refine wpAnyH_take (i := 0) (oi := { dst := some 17, op := Go.Op.move (Go.Operand.tmp 5), type := 3, pos := _, after := #[], guard := none }) (v := .int .i64 (c : Int)) rfl (by kernel_rfl) (by kernel_rfl) (by kernel_rfl) (fun _ _ _ h => h) (Or.inl ⟨by rfl, fun w' hw' => ?_⟩) hHeld ?_
      · first | (go_simp; done) | (go_simp; rfl)
      try simp only [Act.put, List.setIfInBounds_toArray, List.set_cons_zero, List.set_cons_succ]
      refine wpAnyH_take (i := 1) (oi := { dst := some 18, op := Go.Op.binOp Go.BinOp.mul 3 (Go.Operand.tmp 17) (Go.Operand.const (Go.Value.int Go.IntKind.i64 4)) 3, type := 3, pos := _, after := #[{ on := 0, ground := Go.Ground.data }], guard := none }) (v := .int .i64 (4 * (c : Int))) rfl (by kernel_rfl) (by kernel_rfl) (by kernel_rfl) (fun _ _ _ h => h) (Or.inl ⟨by rfl, fun w' hw' => ?_⟩) hHeld ?_
      · first | (go_simp; done) | (go_simp; rfl)
      try simp only [Act.put, List.setIfInBounds_toArray, List.set_cons_zero, List.set_cons_succ]
      refine wpAnyH_take (i := 2) (oi := { dst := some 19, op := Go.Op.slice 26 (Go.Operand.tmp 2) (some (Go.Operand.tmp 18)) none none, type := 36, pos := _, after := #[{ on := 1, ground := Go.Ground.data }], guard := none }) (v := .slice (some ⟨w.heap.size, 4 * c, none⟩) (16 - 4 * c) (16 - 4 * c)) rfl (by kernel_rfl) (by kernel_rfl) (by kernel_rfl) (fun _ _ _ h => h) (Or.inl ⟨by rfl, fun w' hw' => ?_⟩) hHeld ?_
      · first | (go_simp; done) | (go_simp; rfl)
      try simp only [Act.put, List.setIfInBounds_toArray, List.set_cons_zero, List.set_cons_succ]
      refine wpAnyH_take (i := 3) (oi := { dst := some 20, op := Go.Op.slice 52 (Go.Operand.tmp 6) none none none, type := 36, pos := _, after := #[], guard := none }) (v := .slice (some ⟨g, 0, none⟩) 4 4) rfl (by kernel_rfl) (by kernel_rfl) (by kernel_rfl) (fun _ _ _ h => h) (Or.inl ⟨by rfl, fun w' hw' => ?_⟩) hHeld ?_
      · first | (go_simp; done) | (go_simp; rfl)
      try simp only [Act.put, List.setIfInBounds_toArray, List.set_cons_zero, List.set_cons_succ]
      refine wpAnyH_ready (rs := [4]) (by kernel_rfl) (by simp) ?_
      refine AllReadyH.cons (o := { dst := some 21, op := Go.Op.call { callee := Go.Callee.builtin Go.Builtin.copy, args := #[Go.Operand.tmp 19, Go.Operand.tmp 20], argTypes := #[36, 36] }, type := 3, pos := _, after := #[{ on := 2, ground := Go.Ground.data }, { on := 3, ground := Go.Ground.data }], guard := none }) rfl (fun K hK => ?_) AllReadyH.nil
      rw [if_pos (by rfl)]
      refine wp_copy_seg7 (.tmp 19) (.tmp 20) rfl w.heap.size (4 * c) (16 - 4 * c) (16 - 4 * c) (some ⟨g, 0, none⟩) 4 4 rfl rfl ((mdP s f c).map B8) 26 HR13.out MA.toList ?_ ?_ ?_ ?_ ?_
      · rw [Array.length_toList, HM8.out]; exact (Nat.min_eq_left (by omega)).symm
      · intro _
        refine ⟨_, rfl, fun j v hv => ?_⟩
        have e : (⟨g, 0, none⟩ : Addr).add j = ⟨g, j, none⟩ := by unfold Addr.add; split <;> simp_all
        rw [e]
        show W.cell? _ = _
        rw [cell_of_row _ _ j _ _ _ HQ3.out]; simpa using hv
      · rw [Array.length_toList, HM8.out, List.length_map, HPL.out]; omega
      · intro v hv
        have := HM1.out
        rw [Array.all_eq_true_iff_forall_mem] at this
        exact this v (by simpa using hv)
      rw [HPN1.out]
      have hHeld2 := below_setRow hHeld (Nat.le_refl w.heap.size) ((mdP s f (c + 1)).map B8).toArray
      refine hK.out _ _ hHeld2 (fun _ => ?_)
      clear hK K
      try simp only [Act.put, List.setIfInBounds_toArray, List.set_cons_zero, List.set_cons_succ]
      refine wpAnyH_done (by kernel_rfl) ?_ _
      have HM2 : Hid (M2 w ZA (mdP s f (c + 1)) (W.drew.setRow w.heap.size ((mdP s f (c + 1)).map B8).toArray)) := by
        refine ⟨setRow_heap _ _ _ _ _ _ HR13.out, ?_, hHeld2, by simp; omega⟩
        rw [setRow_other _ _ _ _ (by omega)]; exact HR23.out
      clear hHeld hHeld2 HR13 HR23 HQ3 HBW
      go_wp2
      go_roundw
      case rel => exact ⟨c + 1, by omega, by go_num, HM2.out⟩
      case measure => simp [intOf]; omega
    · have hk' : c = 4 := by omega
      have hlt' : ¬ (c : Int) < 4 := by omega
      rw [hk'] at hM
      obtain ⟨h1, h2, h4, h5⟩ := hM
      rw [HPA.out] at h1
      obtain ⟨RS, hRS⟩ : ∃ RS, RS = ((mdA s f).map B8).toArray := ⟨_, rfl⟩
      have hr8 : RS.size = 16 := by rw [hRS]; simp [HLN.out]
      have HRI : Hid ((Try.prog.info? 26).map (·.size) = some RS.size) := info16 RS hr8
      have HR1 : Hid (RS.all (·.oneCell') = true) := by show _ = _; rw [hRS]; exact B8_onea _
      rw [← hRS] at h1
      have HT' : Hid _ := h1
      have HR : Hid _ := h2
      have HR8 : Hid (ZA.size = RS.size) := HZS.out.trans hr8.symm
      have HRS : Hid _ := hRS
      clear h1 h2 hr8 hRS hk'
      go_wp2_with (first
        | (refine wpList_load_row rfl 26 _ rfl (w.heap.size) rfl 26 _ (0, 0) _ HT'.out Try.underlying26 rfl HRI.out ?_)
        | (refine wpList_store_row rfl 26 _ _ rfl (w.heap.size + 1) _ rfl rfl 26 _ HR.out HRI.out HR8.out HR1.out ?_))
      refine bodyPost_ret (v := .agg RS) ?_ rfl ⟨by rw [HRS.out], below_setRow h4 (by omega) _⟩
      exact results_cell_row Try.results41 _ _ (w.heap.size + 1) 26 _ (0, 0) _ rfl (setRow_heap _ _ _ _ _ _ HR.out) Try.underlying26 rfl HRI.out

end Go.Proofs.Ytjohckgdbbhpdaa
