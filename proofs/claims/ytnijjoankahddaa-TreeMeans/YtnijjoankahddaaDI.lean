/- tree: None, Node, At, Check where they are refused. -/
import Derived.Test.YtnijjoankahddaaDG
set_option linter.unusedVariables false
set_option linter.unusedSimpArgs false
namespace Go.Proofs.Ytnijjoankahddaa.DC
open Go.RowKit

set_option maxHeartbeats 1000000 in
set_option maxRecDepth 100000 in
theorem none_nil (pg : Int) (w : World) :
    Calls Try.prog 12 #[.pointer none, .int .i64 pg] w fun e w' => e = .returned (R5.errV 1) ∧ Below w.heap.size w w' := by
  have hz := fun W => R5.zero_dig W
  obtain ⟨ZL, hZL⟩ : ∃ L, L = (List.replicate 32 (0 : UInt8)).map B8 := ⟨_, rfl⟩
  rw [← hZL] at hz
  have HZS : Hid (ZL.toArray.size = 32) := by show _ = _; rw [hZL]; simp
  have HZ1 : Hid (ZL.toArray.all (·.oneCell') = true) := by show _ = _; rw [hZL]; exact R5.B8_onea _
  have HBD : Hid (∀ W : World, (Instr.build 23 #[]).run Try.prog W = .ok (.agg ZL.toArray) W) := fun W => by rw [hZL]; exact R5.build_dig W
  have HEV : Hid (∀ c, R5.errV c = .tuple #[.agg ZL.toArray, .int .i64 c]) := fun c => by rw [hZL]; rfl
  rw [HEV.out]
  clear HEV hZL
  obtain ⟨X0, hE0⟩ : ∃ X, X = w.alloc (.cells ZL.toArray 23 (0, 0)) := ⟨_, rfl⟩
  have hX0 : Below w.heap.size w X0 := by rw [hE0]; exact ((Below.refl _ _).alloc (by first | (simp; done) | (simp; omega)) _)
  have hR0 : X0.heap[w.heap.size]? = some (.cells ZL.toArray 23 (0, 0)) := by rw [hE0]; exact MC.heap_at _ _ _ (by simp)
  have HO : Hid (Calls Try.prog 34 #[.pointer none] X0 fun e w' => e = .returned (.bool true) ∧ Below X0.heap.size X0 w') := noOracle_nil X0
  have HX0 : Hid (Below w.heap.size w X0) := hX0
  have HR0 : Hid (X0.heap[w.heap.size]? = some (.cells ZL.toArray 23 (0, 0))) := hR0
  have HE0 : Hid (X0 = w.alloc (.cells ZL.toArray 23 (0, 0))) := hE0
  rw [hE0] at HO
  clear hX0 hR0 hE0
  go_enter Try.func12, Try.ntmps12
  go_wp2_with fail
  refine Calls.mono HO.out ?_
  rintro e w1 ⟨rfl, hb1⟩
  rw [← HE0.out] at hb1
  have HR1 : Hid (w1.heap[w.heap.size]? = some (.cells ZL.toArray 23 (0, 0))) := (hb1.block _ (MC.row_lt HR0.out)).trans HR0.out
  have HB1 : Hid (Below w.heap.size w w1) := HX0.out.trans (hb1.mono HX0.out.size)
  clear hb1 HO
  go_wp2_with (first
    | (refine R5.wpList_build rfl 23 #[] rfl #[] (.agg ZL.toArray) (by simp) (HBD.out _) ?_)
    | (refine wpList_store_row rfl 23 _ _ rfl (w.heap.size) ZL.toArray rfl rfl 23 ZL.toArray HR1.out (R5.info32a _ HZS.out) rfl HZ1.out ?_))
  refine bodyPost_ret (v := .tuple #[.agg ZL.toArray, .int .i64 1]) ?_ rfl ⟨rfl, below_setRow HB1.out (by omega) _⟩
  exact R5.results_dig2 Try.results12 _ _ (w.heap.size) 23 _ (0, 0) _ rfl rfl (setRow_heap _ _ _ _ _ _ HR1.out) (R5.info32a _ HZS.out)
set_option maxHeartbeats 1000000 in
set_option maxRecDepth 100000 in
theorem none_arg (og mb : Nat) (pg : Int) (w : World) (hc : w.cell? ⟨og, 35, none⟩ = some (.map (some mb))) (hp : mayP pg = false) :
    Calls Try.prog 12 #[.pointer (some ⟨og, 0, none⟩), .int .i64 pg] w fun e w' => e = .returned (R5.errV 2) ∧ Below w.heap.size w w' := by
  have hz := fun W => R5.zero_dig W
  obtain ⟨ZL, hZL⟩ : ∃ L, L = (List.replicate 32 (0 : UInt8)).map B8 := ⟨_, rfl⟩
  rw [← hZL] at hz
  have HZS : Hid (ZL.toArray.size = 32) := by show _ = _; rw [hZL]; simp
  have HZ1 : Hid (ZL.toArray.all (·.oneCell') = true) := by show _ = _; rw [hZL]; exact R5.B8_onea _
  have HBD : Hid (∀ W : World, (Instr.build 23 #[]).run Try.prog W = .ok (.agg ZL.toArray) W) := fun W => by rw [hZL]; exact R5.build_dig W
  have HEV : Hid (∀ c, R5.errV c = .tuple #[.agg ZL.toArray, .int .i64 c]) := fun c => by rw [hZL]; rfl
  rw [HEV.out]
  clear HEV hZL
  obtain ⟨X0, hE0⟩ : ∃ X, X = w.alloc (.cells ZL.toArray 23 (0, 0)) := ⟨_, rfl⟩
  have hX0 : Below w.heap.size w X0 := by rw [hE0]; exact ((Below.refl _ _).alloc (by first | (simp; done) | (simp; omega)) _)
  have hR0 : X0.heap[w.heap.size]? = some (.cells ZL.toArray 23 (0, 0)) := by rw [hE0]; exact MC.heap_at _ _ _ (by simp)
  have HO : Hid (Calls Try.prog 34 #[.pointer (some ⟨og, 0, none⟩)] X0 fun e w' => e = .returned (.bool false) ∧ Below X0.heap.size X0 w') := noOracle_no og mb X0 ((hX0.cell (block_lt hc)).trans hc)
  have HPG : Hid (∀ W, Calls Try.prog 35 #[.int .i64 pg] W fun e w' => e = .returned (.bool false) ∧ w' = W) := fun W => by have q := isPage_any pg W; rw [hp] at q; exact q
  have HX0 : Hid (Below w.heap.size w X0) := hX0
  have HR0 : Hid (X0.heap[w.heap.size]? = some (.cells ZL.toArray 23 (0, 0))) := hR0
  have HE0 : Hid (X0 = w.alloc (.cells ZL.toArray 23 (0, 0))) := hE0
  rw [hE0] at HO
  clear hX0 hR0 hE0 hc hp
  go_enter Try.func12, Try.ntmps12
  go_wp2_with fail
  refine Calls.mono HO.out ?_
  rintro e w1 ⟨rfl, hb1⟩
  rw [← HE0.out] at hb1
  have HR1 : Hid (w1.heap[w.heap.size]? = some (.cells ZL.toArray 23 (0, 0))) := (hb1.block _ (MC.row_lt HR0.out)).trans HR0.out
  have HB1 : Hid (Below w.heap.size w w1) := HX0.out.trans (hb1.mono HX0.out.size)
  clear hb1 HO
  go_wp2_with fail
  refine Calls.mono (HPG.out w1) ?_
  rintro e w2 ⟨rfl, h2⟩
  rw [h2]
  clear h2
  go_wp2_with (first
    | (refine R5.wpList_build rfl 23 #[] rfl #[] (.agg ZL.toArray) (by simp) (HBD.out _) ?_)
    | (refine wpList_store_row rfl 23 _ _ rfl (w.heap.size) ZL.toArray rfl rfl 23 ZL.toArray HR1.out (R5.info32a _ HZS.out) rfl HZ1.out ?_))
  refine bodyPost_ret (v := .tuple #[.agg ZL.toArray, .int .i64 2]) ?_ rfl ⟨rfl, below_setRow HB1.out (by omega) _⟩
  exact R5.results_dig2 Try.results12 _ _ (w.heap.size) 23 _ (0, 0) _ rfl rfl (setRow_heap _ _ _ _ _ _ HR1.out) (R5.info32a _ HZS.out)
set_option maxHeartbeats 1000000 in
set_option maxRecDepth 100000 in
theorem node_nil (i : Int) (LA LB : Array Value) (w : World) :
    Calls Try.prog 19 #[.pointer none, .int .i64 i, .agg LA, .agg LB] w fun e w' => e = .returned (R5.errV 1) ∧ Below w.heap.size w w' := by
  have hz := fun W => R5.zero_dig W
  obtain ⟨ZL, hZL⟩ : ∃ L, L = (List.replicate 32 (0 : UInt8)).map B8 := ⟨_, rfl⟩
  rw [← hZL] at hz
  have HZS : Hid (ZL.toArray.size = 32) := by show _ = _; rw [hZL]; simp
  have HZ1 : Hid (ZL.toArray.all (·.oneCell') = true) := by show _ = _; rw [hZL]; exact R5.B8_onea _
  have HBD : Hid (∀ W : World, (Instr.build 23 #[]).run Try.prog W = .ok (.agg ZL.toArray) W) := fun W => by rw [hZL]; exact R5.build_dig W
  have HEV : Hid (∀ c, R5.errV c = .tuple #[.agg ZL.toArray, .int .i64 c]) := fun c => by rw [hZL]; rfl
  rw [HEV.out]
  clear HEV hZL
  obtain ⟨X0, hE0⟩ : ∃ X, X = ((w.alloc (.cells LA 23 (0, 0))).alloc (.cells LB 23 (0, 0))).alloc (.cells ZL.toArray 23 (0, 0)) := ⟨_, rfl⟩
  have hX0 : Below w.heap.size w X0 := by rw [hE0]; exact ((((Below.refl _ _).alloc (by first | (simp; done) | (simp; omega)) _).alloc (by first | (simp; done) | (simp; omega)) _).alloc (by first | (simp; done) | (simp; omega)) _)
  have hR0 : X0.heap[w.heap.size + 1 + 1]? = some (.cells ZL.toArray 23 (0, 0)) := by rw [hE0]; exact MC.heap_at _ _ _ (by simp)
  have HO : Hid (Calls Try.prog 34 #[.pointer none] X0 fun e w' => e = .returned (.bool true) ∧ Below X0.heap.size X0 w') := noOracle_nil X0
  have HX0 : Hid (Below w.heap.size w X0) := hX0
  have HR0 : Hid (X0.heap[w.heap.size + 1 + 1]? = some (.cells ZL.toArray 23 (0, 0))) := hR0
  have HE0 : Hid (X0 = ((w.alloc (.cells LA 23 (0, 0))).alloc (.cells LB 23 (0, 0))).alloc (.cells ZL.toArray 23 (0, 0))) := hE0
  rw [hE0] at HO
  clear hX0 hR0 hE0
  go_enter Try.func19, Try.ntmps19
  go_wp2_with fail
  refine Calls.mono HO.out ?_
  rintro e w1 ⟨rfl, hb1⟩
  rw [← HE0.out] at hb1
  have HR1 : Hid (w1.heap[w.heap.size + 1 + 1]? = some (.cells ZL.toArray 23 (0, 0))) := (hb1.block _ (MC.row_lt HR0.out)).trans HR0.out
  have HB1 : Hid (Below w.heap.size w w1) := HX0.out.trans (hb1.mono HX0.out.size)
  clear hb1 HO
  go_wp2_with (first
    | (refine R5.wpList_build rfl 23 #[] rfl #[] (.agg ZL.toArray) (by simp) (HBD.out _) ?_)
    | (refine wpList_store_row rfl 23 _ _ rfl (w.heap.size + 1 + 1) ZL.toArray rfl rfl 23 ZL.toArray HR1.out (R5.info32a _ HZS.out) rfl HZ1.out ?_))
  refine bodyPost_ret (v := .tuple #[.agg ZL.toArray, .int .i64 1]) ?_ rfl ⟨rfl, below_setRow HB1.out (by omega) _⟩
  exact R5.results_dig2 Try.results19 _ _ (w.heap.size + 1 + 1) 23 _ (0, 0) _ rfl rfl (setRow_heap _ _ _ _ _ _ HR1.out) (R5.info32a _ HZS.out)
set_option maxHeartbeats 1000000 in
set_option maxRecDepth 100000 in
theorem node_lo (og mb : Nat) (i : Int) (LA LB : Array Value) (w : World) (hc : w.cell? ⟨og, 35, none⟩ = some (.map (some mb))) (hi : i < 1) :
    Calls Try.prog 19 #[.pointer (some ⟨og, 0, none⟩), .int .i64 i, .agg LA, .agg LB] w fun e w' => e = .returned (R5.errV 2) ∧ Below w.heap.size w w' := by
  have hz := fun W => R5.zero_dig W
  obtain ⟨ZL, hZL⟩ : ∃ L, L = (List.replicate 32 (0 : UInt8)).map B8 := ⟨_, rfl⟩
  rw [← hZL] at hz
  have HZS : Hid (ZL.toArray.size = 32) := by show _ = _; rw [hZL]; simp
  have HZ1 : Hid (ZL.toArray.all (·.oneCell') = true) := by show _ = _; rw [hZL]; exact R5.B8_onea _
  have HBD : Hid (∀ W : World, (Instr.build 23 #[]).run Try.prog W = .ok (.agg ZL.toArray) W) := fun W => by rw [hZL]; exact R5.build_dig W
  have HEV : Hid (∀ c, R5.errV c = .tuple #[.agg ZL.toArray, .int .i64 c]) := fun c => by rw [hZL]; rfl
  rw [HEV.out]
  clear HEV hZL
  obtain ⟨X0, hE0⟩ : ∃ X, X = ((w.alloc (.cells LA 23 (0, 0))).alloc (.cells LB 23 (0, 0))).alloc (.cells ZL.toArray 23 (0, 0)) := ⟨_, rfl⟩
  have hX0 : Below w.heap.size w X0 := by rw [hE0]; exact ((((Below.refl _ _).alloc (by first | (simp; done) | (simp; omega)) _).alloc (by first | (simp; done) | (simp; omega)) _).alloc (by first | (simp; done) | (simp; omega)) _)
  have hR0 : X0.heap[w.heap.size + 1 + 1]? = some (.cells ZL.toArray 23 (0, 0)) := by rw [hE0]; exact MC.heap_at _ _ _ (by simp)
  have HO : Hid (Calls Try.prog 34 #[.pointer (some ⟨og, 0, none⟩)] X0 fun e w' => e = .returned (.bool false) ∧ Below X0.heap.size X0 w') := noOracle_no og mb X0 ((hX0.cell (block_lt hc)).trans hc)
  have HX0 : Hid (Below w.heap.size w X0) := hX0
  have HR0 : Hid (X0.heap[w.heap.size + 1 + 1]? = some (.cells ZL.toArray 23 (0, 0))) := hR0
  have HE0 : Hid (X0 = ((w.alloc (.cells LA 23 (0, 0))).alloc (.cells LB 23 (0, 0))).alloc (.cells ZL.toArray 23 (0, 0))) := hE0
  rw [hE0] at HO
  clear hX0 hR0 hE0 hc
  go_enter Try.func19, Try.ntmps19
  go_wp2_with fail
  refine Calls.mono HO.out ?_
  rintro e w1 ⟨rfl, hb1⟩
  rw [← HE0.out] at hb1
  have HR1 : Hid (w1.heap[w.heap.size + 1 + 1]? = some (.cells ZL.toArray 23 (0, 0))) := (hb1.block _ (MC.row_lt HR0.out)).trans HR0.out
  have HB1 : Hid (Below w.heap.size w w1) := HX0.out.trans (hb1.mono HX0.out.size)
  clear hb1 HO
  go_wp2_with (first
    | (refine R5.wpList_build rfl 23 #[] rfl #[] (.agg ZL.toArray) (by simp) (HBD.out _) ?_)
    | (refine wpList_store_row rfl 23 _ _ rfl (w.heap.size + 1 + 1) ZL.toArray rfl rfl 23 ZL.toArray HR1.out (R5.info32a _ HZS.out) rfl HZ1.out ?_))
  refine bodyPost_ret (v := .tuple #[.agg ZL.toArray, .int .i64 2]) ?_ rfl ⟨rfl, below_setRow HB1.out (by omega) _⟩
  exact R5.results_dig2 Try.results19 _ _ (w.heap.size + 1 + 1) 23 _ (0, 0) _ rfl rfl (setRow_heap _ _ _ _ _ _ HR1.out) (R5.info32a _ HZS.out)
set_option maxHeartbeats 1000000 in
set_option maxRecDepth 100000 in
theorem node_hi (og mb : Nat) (i : Int) (LA LB : Array Value) (w : World) (hc : w.cell? ⟨og, 35, none⟩ = some (.map (some mb))) (hi1 : ¬ i < 1) (hi : 128 ≤ i) :
    Calls Try.prog 19 #[.pointer (some ⟨og, 0, none⟩), .int .i64 i, .agg LA, .agg LB] w fun e w' => e = .returned (R5.errV 2) ∧ Below w.heap.size w w' := by
  have hz := fun W => R5.zero_dig W
  obtain ⟨ZL, hZL⟩ : ∃ L, L = (List.replicate 32 (0 : UInt8)).map B8 := ⟨_, rfl⟩
  rw [← hZL] at hz
  have HZS : Hid (ZL.toArray.size = 32) := by show _ = _; rw [hZL]; simp
  have HZ1 : Hid (ZL.toArray.all (·.oneCell') = true) := by show _ = _; rw [hZL]; exact R5.B8_onea _
  have HBD : Hid (∀ W : World, (Instr.build 23 #[]).run Try.prog W = .ok (.agg ZL.toArray) W) := fun W => by rw [hZL]; exact R5.build_dig W
  have HEV : Hid (∀ c, R5.errV c = .tuple #[.agg ZL.toArray, .int .i64 c]) := fun c => by rw [hZL]; rfl
  rw [HEV.out]
  clear HEV hZL
  obtain ⟨X0, hE0⟩ : ∃ X, X = ((w.alloc (.cells LA 23 (0, 0))).alloc (.cells LB 23 (0, 0))).alloc (.cells ZL.toArray 23 (0, 0)) := ⟨_, rfl⟩
  have hX0 : Below w.heap.size w X0 := by rw [hE0]; exact ((((Below.refl _ _).alloc (by first | (simp; done) | (simp; omega)) _).alloc (by first | (simp; done) | (simp; omega)) _).alloc (by first | (simp; done) | (simp; omega)) _)
  have hR0 : X0.heap[w.heap.size + 1 + 1]? = some (.cells ZL.toArray 23 (0, 0)) := by rw [hE0]; exact MC.heap_at _ _ _ (by simp)
  have HO : Hid (Calls Try.prog 34 #[.pointer (some ⟨og, 0, none⟩)] X0 fun e w' => e = .returned (.bool false) ∧ Below X0.heap.size X0 w') := noOracle_no og mb X0 ((hX0.cell (block_lt hc)).trans hc)
  have HX0 : Hid (Below w.heap.size w X0) := hX0
  have HR0 : Hid (X0.heap[w.heap.size + 1 + 1]? = some (.cells ZL.toArray 23 (0, 0))) := hR0
  have HE0 : Hid (X0 = ((w.alloc (.cells LA 23 (0, 0))).alloc (.cells LB 23 (0, 0))).alloc (.cells ZL.toArray 23 (0, 0))) := hE0
  rw [hE0] at HO
  clear hX0 hR0 hE0 hc
  go_enter Try.func19, Try.ntmps19
  go_wp2_with fail
  refine Calls.mono HO.out ?_
  rintro e w1 ⟨rfl, hb1⟩
  rw [← HE0.out] at hb1
  have HR1 : Hid (w1.heap[w.heap.size + 1 + 1]? = some (.cells ZL.toArray 23 (0, 0))) := (hb1.block _ (MC.row_lt HR0.out)).trans HR0.out
  have HB1 : Hid (Below w.heap.size w w1) := HX0.out.trans (hb1.mono HX0.out.size)
  clear hb1 HO
  go_wp2_with (first
    | (refine R5.wpList_build rfl 23 #[] rfl #[] (.agg ZL.toArray) (by simp) (HBD.out _) ?_)
    | (refine wpList_store_row rfl 23 _ _ rfl (w.heap.size + 1 + 1) ZL.toArray rfl rfl 23 ZL.toArray HR1.out (R5.info32a _ HZS.out) rfl HZ1.out ?_))
  refine bodyPost_ret (v := .tuple #[.agg ZL.toArray, .int .i64 2]) ?_ rfl ⟨rfl, below_setRow HB1.out (by omega) _⟩
  exact R5.results_dig2 Try.results19 _ _ (w.heap.size + 1 + 1) 23 _ (0, 0) _ rfl rfl (setRow_heap _ _ _ _ _ _ HR1.out) (R5.info32a _ HZS.out)
set_option maxHeartbeats 1000000 in
set_option maxRecDepth 100000 in
theorem at_nil (a i : Int) (w : World) :
    Calls Try.prog 21 #[.pointer none, .int .u64 a, .int .i64 i] w fun e w' => e = .returned (R5.errV 1) ∧ Below w.heap.size w w' := by
  have hz := fun W => R5.zero_dig W
  obtain ⟨ZL, hZL⟩ : ∃ L, L = (List.replicate 32 (0 : UInt8)).map B8 := ⟨_, rfl⟩
  rw [← hZL] at hz
  have HZS : Hid (ZL.toArray.size = 32) := by show _ = _; rw [hZL]; simp
  have HZ1 : Hid (ZL.toArray.all (·.oneCell') = true) := by show _ = _; rw [hZL]; exact R5.B8_onea _
  have HBD : Hid (∀ W : World, (Instr.build 23 #[]).run Try.prog W = .ok (.agg ZL.toArray) W) := fun W => by rw [hZL]; exact R5.build_dig W
  have HEV : Hid (∀ c, R5.errV c = .tuple #[.agg ZL.toArray, .int .i64 c]) := fun c => by rw [hZL]; rfl
  rw [HEV.out]
  clear HEV hZL
  obtain ⟨X0, hE0⟩ : ∃ X, X = w.alloc (.cells ZL.toArray 23 (0, 0)) := ⟨_, rfl⟩
  have hX0 : Below w.heap.size w X0 := by rw [hE0]; exact ((Below.refl _ _).alloc (by first | (simp; done) | (simp; omega)) _)
  have hR0 : X0.heap[w.heap.size]? = some (.cells ZL.toArray 23 (0, 0)) := by rw [hE0]; exact MC.heap_at _ _ _ (by simp)
  have HO : Hid (Calls Try.prog 39 #[.pointer none] X0 fun e w' => e = .returned (.bool true) ∧ Below X0.heap.size X0 w') := Calls.mono (nom_nil X0) (fun e w' ⟨h1, h2⟩ => ⟨h1, by rw [h2]; exact Below.refl _ _⟩)
  have HX0 : Hid (Below w.heap.size w X0) := hX0
  have HR0 : Hid (X0.heap[w.heap.size]? = some (.cells ZL.toArray 23 (0, 0))) := hR0
  have HE0 : Hid (X0 = w.alloc (.cells ZL.toArray 23 (0, 0))) := hE0
  rw [hE0] at HO
  clear hX0 hR0 hE0
  go_enter Try.func21, Try.ntmps21
  go_wp2_with fail
  refine Calls.mono HO.out ?_
  rintro e w1 ⟨rfl, hb1⟩
  rw [← HE0.out] at hb1
  have HR1 : Hid (w1.heap[w.heap.size]? = some (.cells ZL.toArray 23 (0, 0))) := (hb1.block _ (MC.row_lt HR0.out)).trans HR0.out
  have HB1 : Hid (Below w.heap.size w w1) := HX0.out.trans (hb1.mono HX0.out.size)
  clear hb1 HO
  go_wp2_with (first
    | (refine R5.wpList_build rfl 23 #[] rfl #[] (.agg ZL.toArray) (by simp) (HBD.out _) ?_)
    | (refine wpList_store_row rfl 23 _ _ rfl (w.heap.size) ZL.toArray rfl rfl 23 ZL.toArray HR1.out (R5.info32a _ HZS.out) rfl HZ1.out ?_))
  refine bodyPost_ret (v := .tuple #[.agg ZL.toArray, .int .i64 1]) ?_ rfl ⟨rfl, below_setRow HB1.out (by omega) _⟩
  exact R5.results_dig2 Try.results21 _ _ (w.heap.size) 23 _ (0, 0) _ rfl rfl (setRow_heap _ _ _ _ _ _ HR1.out) (R5.info32a _ HZS.out)
set_option maxHeartbeats 1000000 in
set_option maxRecDepth 100000 in
theorem at_lo (og mb mm n : Nat) (a i : Int) (w : World) (hT : There og mb mm n w) (hi : i < 2) :
    Calls Try.prog 21 #[.pointer (some ⟨mm, 0, none⟩), .int .u64 a, .int .i64 i] w fun e w' => e = .returned (R5.errV 2) ∧ Below w.heap.size w w' := by
  have hz := fun W => R5.zero_dig W
  obtain ⟨ZL, hZL⟩ : ∃ L, L = (List.replicate 32 (0 : UInt8)).map B8 := ⟨_, rfl⟩
  rw [← hZL] at hz
  have HZS : Hid (ZL.toArray.size = 32) := by show _ = _; rw [hZL]; simp
  have HZ1 : Hid (ZL.toArray.all (·.oneCell') = true) := by show _ = _; rw [hZL]; exact R5.B8_onea _
  have HBD : Hid (∀ W : World, (Instr.build 23 #[]).run Try.prog W = .ok (.agg ZL.toArray) W) := fun W => by rw [hZL]; exact R5.build_dig W
  have HEV : Hid (∀ c, R5.errV c = .tuple #[.agg ZL.toArray, .int .i64 c]) := fun c => by rw [hZL]; rfl
  rw [HEV.out]
  clear HEV hZL
  obtain ⟨X0, hE0⟩ : ∃ X, X = w.alloc (.cells ZL.toArray 23 (0, 0)) := ⟨_, rfl⟩
  have hX0 : Below w.heap.size w X0 := by rw [hE0]; exact ((Below.refl _ _).alloc (by first | (simp; done) | (simp; omega)) _)
  have hR0 : X0.heap[w.heap.size]? = some (.cells ZL.toArray 23 (0, 0)) := by rw [hE0]; exact MC.heap_at _ _ _ (by simp)
  have HO : Hid (Calls Try.prog 39 #[.pointer (some ⟨mm, 0, none⟩)] X0 fun e w' => e = .returned (.bool false) ∧ Below X0.heap.size X0 w') := Calls.mono ((hT.step hX0).nom) (fun e w' ⟨h1, h2⟩ => ⟨h1, by rw [h2]; exact Below.refl _ _⟩)
  have HX0 : Hid (Below w.heap.size w X0) := hX0
  have HR0 : Hid (X0.heap[w.heap.size]? = some (.cells ZL.toArray 23 (0, 0))) := hR0
  have HE0 : Hid (X0 = w.alloc (.cells ZL.toArray 23 (0, 0))) := hE0
  rw [hE0] at HO
  clear hX0 hR0 hE0 hT
  go_enter Try.func21, Try.ntmps21
  go_wp2_with fail
  refine Calls.mono HO.out ?_
  rintro e w1 ⟨rfl, hb1⟩
  rw [← HE0.out] at hb1
  have HR1 : Hid (w1.heap[w.heap.size]? = some (.cells ZL.toArray 23 (0, 0))) := (hb1.block _ (MC.row_lt HR0.out)).trans HR0.out
  have HB1 : Hid (Below w.heap.size w w1) := HX0.out.trans (hb1.mono HX0.out.size)
  clear hb1 HO
  go_wp2_with (first
    | (refine R5.wpList_build rfl 23 #[] rfl #[] (.agg ZL.toArray) (by simp) (HBD.out _) ?_)
    | (refine wpList_store_row rfl 23 _ _ rfl (w.heap.size) ZL.toArray rfl rfl 23 ZL.toArray HR1.out (R5.info32a _ HZS.out) rfl HZ1.out ?_))
  refine bodyPost_ret (v := .tuple #[.agg ZL.toArray, .int .i64 2]) ?_ rfl ⟨rfl, below_setRow HB1.out (by omega) _⟩
  exact R5.results_dig2 Try.results21 _ _ (w.heap.size) 23 _ (0, 0) _ rfl rfl (setRow_heap _ _ _ _ _ _ HR1.out) (R5.info32a _ HZS.out)
set_option maxHeartbeats 1000000 in
set_option maxRecDepth 100000 in
theorem at_hi (og mb mm n : Nat) (a i : Int) (w : World) (hT : There og mb mm n w) (hi1 : ¬ i < 2) (hi : 255 < i) :
    Calls Try.prog 21 #[.pointer (some ⟨mm, 0, none⟩), .int .u64 a, .int .i64 i] w fun e w' => e = .returned (R5.errV 2) ∧ Below w.heap.size w w' := by
  have hz := fun W => R5.zero_dig W
  obtain ⟨ZL, hZL⟩ : ∃ L, L = (List.replicate 32 (0 : UInt8)).map B8 := ⟨_, rfl⟩
  rw [← hZL] at hz
  have HZS : Hid (ZL.toArray.size = 32) := by show _ = _; rw [hZL]; simp
  have HZ1 : Hid (ZL.toArray.all (·.oneCell') = true) := by show _ = _; rw [hZL]; exact R5.B8_onea _
  have HBD : Hid (∀ W : World, (Instr.build 23 #[]).run Try.prog W = .ok (.agg ZL.toArray) W) := fun W => by rw [hZL]; exact R5.build_dig W
  have HEV : Hid (∀ c, R5.errV c = .tuple #[.agg ZL.toArray, .int .i64 c]) := fun c => by rw [hZL]; rfl
  rw [HEV.out]
  clear HEV hZL
  obtain ⟨X0, hE0⟩ : ∃ X, X = w.alloc (.cells ZL.toArray 23 (0, 0)) := ⟨_, rfl⟩
  have hX0 : Below w.heap.size w X0 := by rw [hE0]; exact ((Below.refl _ _).alloc (by first | (simp; done) | (simp; omega)) _)
  have hR0 : X0.heap[w.heap.size]? = some (.cells ZL.toArray 23 (0, 0)) := by rw [hE0]; exact MC.heap_at _ _ _ (by simp)
  have HO : Hid (Calls Try.prog 39 #[.pointer (some ⟨mm, 0, none⟩)] X0 fun e w' => e = .returned (.bool false) ∧ Below X0.heap.size X0 w') := Calls.mono ((hT.step hX0).nom) (fun e w' ⟨h1, h2⟩ => ⟨h1, by rw [h2]; exact Below.refl _ _⟩)
  have HX0 : Hid (Below w.heap.size w X0) := hX0
  have HR0 : Hid (X0.heap[w.heap.size]? = some (.cells ZL.toArray 23 (0, 0))) := hR0
  have HE0 : Hid (X0 = w.alloc (.cells ZL.toArray 23 (0, 0))) := hE0
  rw [hE0] at HO
  clear hX0 hR0 hE0 hT
  go_enter Try.func21, Try.ntmps21
  go_wp2_with fail
  refine Calls.mono HO.out ?_
  rintro e w1 ⟨rfl, hb1⟩
  rw [← HE0.out] at hb1
  have HR1 : Hid (w1.heap[w.heap.size]? = some (.cells ZL.toArray 23 (0, 0))) := (hb1.block _ (MC.row_lt HR0.out)).trans HR0.out
  have HB1 : Hid (Below w.heap.size w w1) := HX0.out.trans (hb1.mono HX0.out.size)
  clear hb1 HO
  go_wp2_with (first
    | (refine R5.wpList_build rfl 23 #[] rfl #[] (.agg ZL.toArray) (by simp) (HBD.out _) ?_)
    | (refine wpList_store_row rfl 23 _ _ rfl (w.heap.size) ZL.toArray rfl rfl 23 ZL.toArray HR1.out (R5.info32a _ HZS.out) rfl HZ1.out ?_))
  refine bodyPost_ret (v := .tuple #[.agg ZL.toArray, .int .i64 2]) ?_ rfl ⟨rfl, below_setRow HB1.out (by omega) _⟩
  exact R5.results_dig2 Try.results21 _ _ (w.heap.size) 23 _ (0, 0) _ rfl rfl (setRow_heap _ _ _ _ _ _ HR1.out) (R5.info32a _ HZS.out)
set_option maxHeartbeats 1000000 in
set_option maxRecDepth 100000 in
theorem at_wit (og mb mm n a : Nat) (i : Int) (w : World) (hT : There og mb mm n w) (ha : a < 18446744073709551616) (hi1 : ¬ i < 2) (hi2 : ¬ 255 < i) (hwt : witB n a = false) :
    Calls Try.prog 21 #[.pointer (some ⟨mm, 0, none⟩), .int .u64 (a : Int), .int .i64 i] w fun e w' => e = .returned (R5.errV 2) ∧ Below w.heap.size w w' := by
  have hz := fun W => R5.zero_dig W
  obtain ⟨ZL, hZL⟩ : ∃ L, L = (List.replicate 32 (0 : UInt8)).map B8 := ⟨_, rfl⟩
  rw [← hZL] at hz
  have HZS : Hid (ZL.toArray.size = 32) := by show _ = _; rw [hZL]; simp
  have HZ1 : Hid (ZL.toArray.all (·.oneCell') = true) := by show _ = _; rw [hZL]; exact R5.B8_onea _
  have HBD : Hid (∀ W : World, (Instr.build 23 #[]).run Try.prog W = .ok (.agg ZL.toArray) W) := fun W => by rw [hZL]; exact R5.build_dig W
  have HEV : Hid (∀ c, R5.errV c = .tuple #[.agg ZL.toArray, .int .i64 c]) := fun c => by rw [hZL]; rfl
  rw [HEV.out]
  clear HEV hZL
  obtain ⟨X0, hE0⟩ : ∃ X, X = w.alloc (.cells ZL.toArray 23 (0, 0)) := ⟨_, rfl⟩
  have hX0 : Below w.heap.size w X0 := by rw [hE0]; exact ((Below.refl _ _).alloc (by first | (simp; done) | (simp; omega)) _)
  have hR0 : X0.heap[w.heap.size]? = some (.cells ZL.toArray 23 (0, 0)) := by rw [hE0]; exact MC.heap_at _ _ _ (by simp)
  have HO : Hid (Calls Try.prog 39 #[.pointer (some ⟨mm, 0, none⟩)] X0 fun e w' => e = .returned (.bool false) ∧ Below X0.heap.size X0 w') := Calls.mono ((hT.step hX0).nom) (fun e w' ⟨h1, h2⟩ => ⟨h1, by rw [h2]; exact Below.refl _ _⟩)
  have HW : Hid (∀ W, Below w.heap.size w W → Calls Try.prog 22 #[.pointer (some ⟨mm, 0, none⟩), .int .u64 (a : Int)] W fun e w' => e = .returned (.bool false) ∧ w' = W) := fun W hW => by have q := (hT.step hW).wit a ha; rw [hwt] at q; exact q
  have HX0 : Hid (Below w.heap.size w X0) := hX0
  have HR0 : Hid (X0.heap[w.heap.size]? = some (.cells ZL.toArray 23 (0, 0))) := hR0
  have HE0 : Hid (X0 = w.alloc (.cells ZL.toArray 23 (0, 0))) := hE0
  rw [hE0] at HO
  clear hX0 hR0 hE0 hT hwt ha
  go_enter Try.func21, Try.ntmps21
  go_wp2_with fail
  refine Calls.mono HO.out ?_
  rintro e w1 ⟨rfl, hb1⟩
  rw [← HE0.out] at hb1
  have HR1 : Hid (w1.heap[w.heap.size]? = some (.cells ZL.toArray 23 (0, 0))) := (hb1.block _ (MC.row_lt HR0.out)).trans HR0.out
  have HB1 : Hid (Below w.heap.size w w1) := HX0.out.trans (hb1.mono HX0.out.size)
  clear hb1 HO
  go_wp2_with fail
  refine Calls.mono (HW.out w1 HB1.out) ?_
  rintro e w2 ⟨rfl, h2⟩
  rw [h2]
  clear h2
  go_wp2_with (first
    | (refine R5.wpList_build rfl 23 #[] rfl #[] (.agg ZL.toArray) (by simp) (HBD.out _) ?_)
    | (refine wpList_store_row rfl 23 _ _ rfl (w.heap.size) ZL.toArray rfl rfl 23 ZL.toArray HR1.out (R5.info32a _ HZS.out) rfl HZ1.out ?_))
  refine bodyPost_ret (v := .tuple #[.agg ZL.toArray, .int .i64 2]) ?_ rfl ⟨rfl, below_setRow HB1.out (by omega) _⟩
  exact R5.results_dig2 Try.results21 _ _ (w.heap.size) 23 _ (0, 0) _ rfl rfl (setRow_heap _ _ _ _ _ _ HR1.out) (R5.info32a _ HZS.out)
set_option maxHeartbeats 1000000 in
set_option maxRecDepth 100000 in
theorem check_no (ov mv : Value) (a pg c : Int) (RA LA : List Value) (w : World) (hl : LA.length = 32) (hc : c ≠ 0) (hU : ∀ W, Below w.heap.size w W → Calls Try.prog 20 #[ov, mv, .int .u64 a, .int .i64 pg, .agg LA.toArray] W fun e w' => e = .returned (R5.errV c) ∧ Below W.heap.size W w') :
    Calls Try.prog 15 #[ov, mv, .int .u64 a, .agg RA.toArray, .int .i64 pg, .agg LA.toArray] w fun e w' => e = .returned (.tuple #[.bool false, .int .i64 c]) ∧ Below w.heap.size w w' := by
  have hz := fun W => R5.zero_dig W
  obtain ⟨ZL, hZL⟩ : ∃ L, L = (List.replicate 32 (0 : UInt8)).map B8 := ⟨_, rfl⟩
  rw [← hZL] at hz
  have HZS : Hid (ZL.toArray.size = 32) := by show _ = _; rw [hZL]; simp
  have HZ1 : Hid (ZL.toArray.all (·.oneCell') = true) := by show _ = _; rw [hZL]; exact R5.B8_onea _
  have HBD : Hid (∀ W : World, (Instr.build 23 #[]).run Try.prog W = .ok (.agg ZL.toArray) W) := fun W => by rw [hZL]; exact R5.build_dig W
  have HEV : Hid (∀ c, R5.errV c = .tuple #[.agg ZL.toArray, .int .i64 c]) := fun c => by rw [hZL]; rfl
  obtain ⟨X0, hE0⟩ : ∃ X, X = (w.alloc (.cells RA.toArray 23 (0, 0))).alloc (.cells LA.toArray 23 (0, 0)) := ⟨_, rfl⟩
  have hX0 : Below w.heap.size w X0 := by rw [hE0]; exact ((Below.refl _ _).alloc (by first | (simp; done) | (simp; omega)) _).alloc (by simp) _
  have hR0 : X0.heap[w.heap.size + 1]? = some (.cells LA.toArray 23 (0, 0)) := by rw [hE0]; exact MC.heap_at _ _ _ (by simp)
  have HU : Hid (Calls Try.prog 20 #[ov, mv, .int .u64 a, .int .i64 pg, .agg LA.toArray] X0 fun e w' => e = .returned (.tuple #[.agg ZL.toArray, .int .i64 c]) ∧ Below X0.heap.size X0 w') := by have q := hU X0 hX0; rw [HEV.out] at q; exact q
  have HL0 : Hid (X0.rangeAt (w.heap.size + 1) 0 LA) := MC.rangeAt_row hR0
  have HX0 : Hid (Below w.heap.size w X0) := hX0
  have HE0 : Hid (X0 = (w.alloc (.cells RA.toArray 23 (0, 0))).alloc (.cells LA.toArray 23 (0, 0))) := hE0
  have hcb : (c == 0) = false := by simpa using hc
  have HLI : Hid _ := R5.info32 LA hl
  rw [hE0] at HU HL0
  clear hU hc hX0 hR0 hE0 HEV hZL hl
  go_enter Try.func15, Try.ntmps15
  go_wp2_with (refine wpList_load_mid rfl 23 (.tmp 11) rfl (w.heap.size + 1) 0 rfl LA _ HL0.out Try.underlying23 rfl HLI.out ?_)
  refine Calls.mono HU.out ?_
  rintro e w1 ⟨rfl, hb1⟩
  rw [← HE0.out] at hb1
  have HB1 : Hid (Below w.heap.size w w1) := HX0.out.trans (hb1.mono HX0.out.size)
  have HS1 : Hid (w.heap.size ≤ w1.heap.size) := HB1.out.size
  have HR : Hid ((w1.alloc (.cells ZL.toArray 23 (0, 0))).heap[w1.heap.size]? = some (.cells ZL.toArray 23 (0, 0))) := heap_alloc_new _ _
  clear hb1 HU HL0
  go_wp2_with (refine wpList_store_row rfl 23 _ _ rfl w1.heap.size ZL.toArray rfl rfl 23 ZL.toArray HR.out (R5.info32a _ HZS.out) rfl HZ1.out ?_)
  go_ret2
  exact ⟨rfl, below_setRow (HB1.out.alloc HS1.out _) HS1.out _⟩
end Go.Proofs.Ytnijjoankahddaa.DC
