/- tree: why no tree can lie there, why a page has no way; Lay, Up, Set, Check, At, None, Node where they are refused. -/
import Derived.Test.YtnijjoankahddaaDE
set_option linter.unusedVariables false
set_option linter.unusedSimpArgs false
namespace Go.Proofs.Ytnijjoankahddaa.DC
open Go.RowKit

/-- An oracle that is there, and memory of n granules that is there. -/
structure There (og mb mm n : Nat) (w : World) : Prop where
  o : w.cell? ⟨og, 35, none⟩ = some (.map (some mb))
  m : ∃ q cap, w.cell? ⟨mm, 0, none⟩ = some (.slice q n cap)
  le : n ≤ 4096
  pos : 1 ≤ n
theorem There.step {og mb mm n : Nat} {w w' : World} (h : There og mb mm n w) (hb : Below w.heap.size w w') : There og mb mm n w' := by
  obtain ⟨q, cap, hm⟩ := h.m
  exact ⟨(hb.cell (block_lt h.o)).trans h.o, ⟨q, cap, (hb.cell (block_lt hm)).trans hm⟩, h.le, h.pos⟩
theorem There.gr {og mb mm n : Nat} {w : World} (h : There og mb mm n w) : Calls Try.prog 41 #[.pointer (some ⟨mm, 0, none⟩)] w fun e w' => e = .returned (.int .i64 (n : Int)) ∧ w = w' := by
  obtain ⟨q, cap, hm⟩ := h.m
  exact MC.granules_of _ q n cap w (MC.list_at mm _ w hm)
theorem gr_nil (w : World) : Calls Try.prog 41 #[.pointer none] w fun e w' => e = .returned (.int .i64 ((0 : Nat) : Int)) ∧ w = w' := MC.granules_of _ none 0 0 w (MC.list_nil w)
theorem There.nom {og mb mm n : Nat} {w : World} (h : There og mb mm n w) : Calls Try.prog 39 #[.pointer (some ⟨mm, 0, none⟩)] w fun e w' => e = .returned (.bool false) ∧ w' = w := by
  have q := noMemory_of _ n w h.gr
  rw [show ((n : Int) == 0) = false by rw [beq_eq_false_iff_ne]; have := h.pos; omega] at q
  exact q
theorem nom_nil (w : World) : Calls Try.prog 39 #[.pointer none] w fun e w' => e = .returned (.bool true) ∧ w' = w := noMemory_of _ 0 w (gr_nil w)
theorem There.wit {og mb mm n : Nat} {w : World} (h : There og mb mm n w) (a : Nat) (ha : a < 18446744073709551616) : Calls Try.prog 22 #[.pointer (some ⟨mm, 0, none⟩), .int .u64 (a : Int)] w fun e w' => e = .returned (.bool (witB n a)) ∧ w' = w := within_of _ n a w h.le ha h.gr
def tfC (n a : Nat) : Int := if witB n a = true then 0 else 2
set_option maxHeartbeats 1000000 in
set_option maxRecDepth 100000 in
theorem tf_any {og mb mm n : Nat} {w : World} (h : There og mb mm n w) (a : Nat) (ha : a < 18446744073709551616) : Calls Try.prog 29 #[.pointer (some ⟨og, 0, none⟩), .pointer (some ⟨mm, 0, none⟩), .int .u64 (a : Int)] w fun e w' => e = .returned (.int .i64 (tfC n a)) ∧ Below w.heap.size w w' := by
  have HO : Hid (Calls Try.prog 34 #[.pointer (some ⟨og, 0, none⟩)] w fun e w' => e = .returned (.bool false) ∧ Below w.heap.size w w') := noOracle_no og mb w h.o
  have HM : Hid (∀ W, Below w.heap.size w W → Calls Try.prog 39 #[.pointer (some ⟨mm, 0, none⟩)] W fun e w' => e = .returned (.bool false) ∧ w' = W) := fun W hW => (h.step hW).nom
  have HW : Hid (∀ W, Below w.heap.size w W → Calls Try.prog 22 #[.pointer (some ⟨mm, 0, none⟩), .int .u64 (a : Int)] W fun e w' => e = .returned (.bool (witB n a)) ∧ w' = W) := fun W hW => (h.step hW).wit a ha
  have HC : Hid (tfC n a = if witB n a = true then 0 else 2) := rfl
  generalize tfC n a = c at *
  generalize witB n a = b at *
  clear h
  go_enter Try.func29, Try.ntmps29
  go_wp2_with fail
  refine Calls.mono HO.out ?_
  rintro e w1 ⟨rfl, hb⟩
  have HB : Hid (Below w.heap.size w w1) := hb
  clear hb
  go_wp2_with fail
  refine Calls.mono (HM.out w1 HB.out) ?_
  rintro e w2 ⟨rfl, rfl⟩
  go_wp2_with fail
  refine Calls.mono (HW.out _ HB.out) ?_
  rintro e w3 ⟨rfl, rfl⟩
  cases b with
  | true =>
    have hc : c = 0 := HC.out
    subst hc
    clear HC
    go_wp2
    go_ret
    exact ⟨rfl, HB.out⟩
  | false =>
    have hc : c = 2 := HC.out
    subst hc
    clear HC
    go_wp2
    go_ret
    exact ⟨rfl, HB.out⟩
/-- No oracle, or no memory. -/
theorem tf_no (mv : Value) (a : Int) (w : World) : Calls Try.prog 29 #[.pointer none, mv, .int .u64 a] w fun e w' => e = .returned (.int .i64 1) ∧ Below w.heap.size w w' := by
  have HO : Hid (Calls Try.prog 34 #[.pointer none] w fun e w' => e = .returned (.bool true) ∧ Below w.heap.size w w') := noOracle_nil w
  go_enter Try.func29, Try.ntmps29
  go_wp2_with fail
  refine Calls.mono HO.out ?_
  rintro e w1 ⟨rfl, hb⟩
  have HB : Hid (Below w.heap.size w w1) := hb
  clear hb
  go_wp2
  go_ret
  exact ⟨rfl, HB.out⟩
theorem tf_nm (og mb : Nat) (a : Int) (w : World) (hc : w.cell? ⟨og, 35, none⟩ = some (.map (some mb))) : Calls Try.prog 29 #[.pointer (some ⟨og, 0, none⟩), .pointer none, .int .u64 a] w fun e w' => e = .returned (.int .i64 1) ∧ Below w.heap.size w w' := by
  have HO : Hid (Calls Try.prog 34 #[.pointer (some ⟨og, 0, none⟩)] w fun e w' => e = .returned (.bool false) ∧ Below w.heap.size w w') := noOracle_no og mb w hc
  have HM : Hid (∀ W, Calls Try.prog 39 #[.pointer none] W fun e w' => e = .returned (.bool true) ∧ w' = W) := nom_nil
  clear hc
  go_enter Try.func29, Try.ntmps29
  go_wp2_with fail
  refine Calls.mono HO.out ?_
  rintro e w1 ⟨rfl, hb⟩
  have HB : Hid (Below w.heap.size w w1) := hb
  clear hb
  go_wp2_with fail
  refine Calls.mono (HM.out w1) ?_
  rintro e w2 ⟨rfl, rfl⟩
  go_wp2
  go_ret
  exact ⟨rfl, HB.out⟩
/-- wayFault, by treeFault. -/
theorem wf_no (ov mv : Value) (a pg c : Int) (w : World) (hc : c ≠ 0) (hT : Calls Try.prog 29 #[ov, mv, .int .u64 a] w fun e w' => e = .returned (.int .i64 c) ∧ Below w.heap.size w w') :
    Calls Try.prog 36 #[ov, mv, .int .u64 a, .int .i64 pg] w fun e w' => e = .returned (.int .i64 c) ∧ Below w.heap.size w w' := by
  have HT : Hid (Calls Try.prog 29 #[ov, mv, .int .u64 a] w fun e w' => e = .returned (.int .i64 c) ∧ Below w.heap.size w w') := hT
  have hb : (c != 0) = true := by simpa using hc
  clear hT hc
  go_enter Try.func36, Try.ntmps36
  go_wp2_with fail
  refine Calls.mono HT.out ?_
  rintro e w1 ⟨rfl, hb1⟩
  have HB : Hid (Below w.heap.size w w1) := hb1
  clear hb1
  go_wp2
  go_ret
  exact ⟨rfl, HB.out⟩
theorem wf_ok (ov mv : Value) (a pg : Int) (w : World) (hT : Calls Try.prog 29 #[ov, mv, .int .u64 a] w fun e w' => e = .returned (.int .i64 0) ∧ Below w.heap.size w w') :
    Calls Try.prog 36 #[ov, mv, .int .u64 a, .int .i64 pg] w fun e w' => e = .returned (.int .i64 (if mayP pg = true then 0 else 2)) ∧ Below w.heap.size w w' := by
  have HT : Hid (Calls Try.prog 29 #[ov, mv, .int .u64 a] w fun e w' => e = .returned (.int .i64 0) ∧ Below w.heap.size w w') := hT
  have HP : Hid (∀ W, Calls Try.prog 35 #[.int .i64 pg] W fun e w' => e = .returned (.bool (mayP pg)) ∧ w' = W) := fun W => isPage_any pg W
  clear hT
  generalize mayP pg = b at *
  go_enter Try.func36, Try.ntmps36
  go_wp2_with fail
  refine Calls.mono HT.out ?_
  rintro e w1 ⟨rfl, hb1⟩
  have HB : Hid (Below w.heap.size w w1) := hb1
  clear hb1
  go_wp2_with fail
  refine Calls.mono (HP.out w1) ?_
  rintro e w2 ⟨rfl, rfl⟩
  cases b <;> (go_wp2; go_ret; exact ⟨rfl, HB.out⟩)
set_option maxHeartbeats 1000000 in
set_option maxRecDepth 100000 in
theorem lay_no (ov mv : Value) (a c : Int) (w : World) (hc : c ≠ 0) (hT : ∀ W, Below w.heap.size w W → Calls Try.prog 29 #[ov, mv, .int .u64 a] W fun e w' => e = .returned (.int .i64 c) ∧ Below W.heap.size W w') :
    Calls Try.prog 11 #[ov, mv, .int .u64 a] w fun e w' => e = .returned (R5.errV c) ∧ Below w.heap.size w w' := by
  have hz := fun W => R5.zero_dig W
  obtain ⟨ZL, hZL⟩ : ∃ L, L = (List.replicate 32 (0 : UInt8)).map B8 := ⟨_, rfl⟩
  rw [← hZL] at hz
  have HZS : Hid (ZL.toArray.size = 32) := by show _ = _; rw [hZL]; simp
  have HZ1 : Hid (ZL.toArray.all (·.oneCell') = true) := by show _ = _; rw [hZL]; exact R5.B8_onea _
  have HBD : Hid (∀ W : World, (Instr.build 23 #[]).run Try.prog W = .ok (.agg ZL.toArray) W) := fun W => by rw [hZL]; exact R5.build_dig W
  have HEV : Hid (∀ c, R5.errV c = .tuple #[.agg ZL.toArray, .int .i64 c]) := fun c => by rw [hZL]; rfl
  rw [HEV.out]
  clear HEV hZL
  have hb : (c != 0) = true := by simpa using hc
  obtain ⟨X0, hE0⟩ : ∃ X, X = w.alloc (.cells ZL.toArray 23 (0, 0)) := ⟨_, rfl⟩
  have hX0 : Below w.heap.size w X0 := by rw [hE0]; exact (Below.refl _ _).alloc (Nat.le_refl _) _
  have hR0 : X0.heap[w.heap.size]? = some (.cells ZL.toArray 23 (0, 0)) := by rw [hE0]; exact heap_alloc_new _ _
  have HT : Hid (Calls Try.prog 29 #[ov, mv, .int .u64 a] X0 fun e w' => e = .returned (.int .i64 c) ∧ Below X0.heap.size X0 w') := hT X0 hX0
  have HX0 : Hid (Below w.heap.size w X0) := hX0
  have HR0 : Hid (X0.heap[w.heap.size]? = some (.cells ZL.toArray 23 (0, 0))) := hR0
  have HE0 : Hid (X0 = w.alloc (.cells ZL.toArray 23 (0, 0))) := hE0
  rw [hE0] at HT
  clear hT hc hX0 hR0 hE0
  go_enter Try.func11, Try.ntmps11
  go_wp2_with fail
  refine Calls.mono HT.out ?_
  rintro e w1 ⟨rfl, hb1⟩
  rw [← HE0.out] at hb1
  have HR1 : Hid (w1.heap[w.heap.size]? = some (.cells ZL.toArray 23 (0, 0))) := (hb1.block _ (MC.row_lt HR0.out)).trans HR0.out
  have HB1 : Hid (Below w.heap.size w w1) := HX0.out.trans (hb1.mono HX0.out.size)
  clear hb1 HT
  go_wp2_with (first
    | (refine R5.wpList_build rfl 23 #[] rfl #[] (.agg ZL.toArray) (by simp) (HBD.out _) ?_)
    | (refine wpList_store_row rfl 23 _ _ rfl (w.heap.size) ZL.toArray rfl rfl 23 ZL.toArray HR1.out (R5.info32a _ HZS.out) rfl HZ1.out ?_))
  refine bodyPost_ret (v := .tuple #[.agg ZL.toArray, .int .i64 c]) ?_ rfl ⟨rfl, below_setRow HB1.out (by omega) _⟩
  exact R5.results_dig2 Try.results11 _ _ (w.heap.size) 23 _ (0, 0) _ rfl rfl (setRow_heap _ _ _ _ _ _ HR1.out) (R5.info32a _ HZS.out)
set_option maxHeartbeats 1000000 in
set_option maxRecDepth 100000 in
theorem up_no (ov mv : Value) (a pg c : Int) (LA : Array Value) (w : World) (hc : c ≠ 0) (hT : ∀ W, Below w.heap.size w W → Calls Try.prog 36 #[ov, mv, .int .u64 a, .int .i64 pg] W fun e w' => e = .returned (.int .i64 c) ∧ Below W.heap.size W w') :
    Calls Try.prog 20 #[ov, mv, .int .u64 a, .int .i64 pg, .agg LA] w fun e w' => e = .returned (R5.errV c) ∧ Below w.heap.size w w' := by
  have hz := fun W => R5.zero_dig W
  obtain ⟨ZL, hZL⟩ : ∃ L, L = (List.replicate 32 (0 : UInt8)).map B8 := ⟨_, rfl⟩
  rw [← hZL] at hz
  have HZS : Hid (ZL.toArray.size = 32) := by show _ = _; rw [hZL]; simp
  have HZ1 : Hid (ZL.toArray.all (·.oneCell') = true) := by show _ = _; rw [hZL]; exact R5.B8_onea _
  have HBD : Hid (∀ W : World, (Instr.build 23 #[]).run Try.prog W = .ok (.agg ZL.toArray) W) := fun W => by rw [hZL]; exact R5.build_dig W
  have HEV : Hid (∀ c, R5.errV c = .tuple #[.agg ZL.toArray, .int .i64 c]) := fun c => by rw [hZL]; rfl
  rw [HEV.out]
  clear HEV hZL
  have hb : (c != 0) = true := by simpa using hc
  obtain ⟨X0, hE0⟩ : ∃ X, X = (w.alloc (.cells LA 23 (0, 0))).alloc (.cells ZL.toArray 23 (0, 0)) := ⟨_, rfl⟩
  have hX0 : Below w.heap.size w X0 := by rw [hE0]; exact ((Below.refl _ _).alloc (Nat.le_refl _) _).alloc (by simp) _
  have hR0 : X0.heap[w.heap.size + 1]? = some (.cells ZL.toArray 23 (0, 0)) := by rw [hE0]; exact MC.heap_at _ _ _ (by simp)
  have HT : Hid (Calls Try.prog 36 #[ov, mv, .int .u64 a, .int .i64 pg] X0 fun e w' => e = .returned (.int .i64 c) ∧ Below X0.heap.size X0 w') := hT X0 hX0
  have HX0 : Hid (Below w.heap.size w X0) := hX0
  have HR0 : Hid (X0.heap[w.heap.size + 1]? = some (.cells ZL.toArray 23 (0, 0))) := hR0
  have HE0 : Hid (X0 = (w.alloc (.cells LA 23 (0, 0))).alloc (.cells ZL.toArray 23 (0, 0))) := hE0
  rw [hE0] at HT
  clear hT hc hX0 hR0 hE0
  go_enter Try.func20, Try.ntmps20
  go_wp2_with fail
  refine Calls.mono HT.out ?_
  rintro e w1 ⟨rfl, hb1⟩
  rw [← HE0.out] at hb1
  have HR1 : Hid (w1.heap[w.heap.size + 1]? = some (.cells ZL.toArray 23 (0, 0))) := (hb1.block _ (MC.row_lt HR0.out)).trans HR0.out
  have HB1 : Hid (Below w.heap.size w w1) := HX0.out.trans (hb1.mono HX0.out.size)
  clear hb1 HT
  go_wp2_with (first
    | (refine R5.wpList_build rfl 23 #[] rfl #[] (.agg ZL.toArray) (by simp) (HBD.out _) ?_)
    | (refine wpList_store_row rfl 23 _ _ rfl (w.heap.size + 1) ZL.toArray rfl rfl 23 ZL.toArray HR1.out (R5.info32a _ HZS.out) rfl HZ1.out ?_))
  refine bodyPost_ret (v := .tuple #[.agg ZL.toArray, .int .i64 c]) ?_ rfl ⟨rfl, below_setRow HB1.out (by omega) _⟩
  exact R5.results_dig2 Try.results20 _ _ (w.heap.size + 1) 23 _ (0, 0) _ rfl rfl (setRow_heap _ _ _ _ _ _ HR1.out) (R5.info32a _ HZS.out)
set_option maxHeartbeats 1000000 in
set_option maxRecDepth 100000 in
theorem set_no (ov mv : Value) (a pg c : Int) (LA : Array Value) (w : World) (hc : c ≠ 0) (hT : ∀ W, Below w.heap.size w W → Calls Try.prog 36 #[ov, mv, .int .u64 a, .int .i64 pg] W fun e w' => e = .returned (.int .i64 c) ∧ Below W.heap.size W w') :
    Calls Try.prog 14 #[ov, mv, .int .u64 a, .int .i64 pg, .agg LA] w fun e w' => e = .returned (R5.errV c) ∧ Below w.heap.size w w' := by
  have hz := fun W => R5.zero_dig W
  obtain ⟨ZL, hZL⟩ : ∃ L, L = (List.replicate 32 (0 : UInt8)).map B8 := ⟨_, rfl⟩
  rw [← hZL] at hz
  have HZS : Hid (ZL.toArray.size = 32) := by show _ = _; rw [hZL]; simp
  have HZ1 : Hid (ZL.toArray.all (·.oneCell') = true) := by show _ = _; rw [hZL]; exact R5.B8_onea _
  have HBD : Hid (∀ W : World, (Instr.build 23 #[]).run Try.prog W = .ok (.agg ZL.toArray) W) := fun W => by rw [hZL]; exact R5.build_dig W
  have HEV : Hid (∀ c, R5.errV c = .tuple #[.agg ZL.toArray, .int .i64 c]) := fun c => by rw [hZL]; rfl
  rw [HEV.out]
  clear HEV hZL
  have hb : (c != 0) = true := by simpa using hc
  obtain ⟨X0, hE0⟩ : ∃ X, X = (w.alloc (.cells LA 23 (0, 0))).alloc (.cells ZL.toArray 23 (0, 0)) := ⟨_, rfl⟩
  have hX0 : Below w.heap.size w X0 := by rw [hE0]; exact ((Below.refl _ _).alloc (Nat.le_refl _) _).alloc (by simp) _
  have hR0 : X0.heap[w.heap.size + 1]? = some (.cells ZL.toArray 23 (0, 0)) := by rw [hE0]; exact MC.heap_at _ _ _ (by simp)
  have HT : Hid (Calls Try.prog 36 #[ov, mv, .int .u64 a, .int .i64 pg] X0 fun e w' => e = .returned (.int .i64 c) ∧ Below X0.heap.size X0 w') := hT X0 hX0
  have HX0 : Hid (Below w.heap.size w X0) := hX0
  have HR0 : Hid (X0.heap[w.heap.size + 1]? = some (.cells ZL.toArray 23 (0, 0))) := hR0
  have HE0 : Hid (X0 = (w.alloc (.cells LA 23 (0, 0))).alloc (.cells ZL.toArray 23 (0, 0))) := hE0
  rw [hE0] at HT
  clear hT hc hX0 hR0 hE0
  go_enter Try.func14, Try.ntmps14
  go_wp2_with fail
  refine Calls.mono HT.out ?_
  rintro e w1 ⟨rfl, hb1⟩
  rw [← HE0.out] at hb1
  have HR1 : Hid (w1.heap[w.heap.size + 1]? = some (.cells ZL.toArray 23 (0, 0))) := (hb1.block _ (MC.row_lt HR0.out)).trans HR0.out
  have HB1 : Hid (Below w.heap.size w w1) := HX0.out.trans (hb1.mono HX0.out.size)
  clear hb1 HT
  go_wp2_with (first
    | (refine R5.wpList_build rfl 23 #[] rfl #[] (.agg ZL.toArray) (by simp) (HBD.out _) ?_)
    | (refine wpList_store_row rfl 23 _ _ rfl (w.heap.size + 1) ZL.toArray rfl rfl 23 ZL.toArray HR1.out (R5.info32a _ HZS.out) rfl HZ1.out ?_))
  refine bodyPost_ret (v := .tuple #[.agg ZL.toArray, .int .i64 c]) ?_ rfl ⟨rfl, below_setRow HB1.out (by omega) _⟩
  exact R5.results_dig2 Try.results14 _ _ (w.heap.size + 1) 23 _ (0, 0) _ rfl rfl (setRow_heap _ _ _ _ _ _ HR1.out) (R5.info32a _ HZS.out)
end Go.Proofs.Ytnijjoankahddaa.DC
