/- cpu: what the document makes of a word. -/
import Derived.Test.YtkpjfhphohanlaaGreatDoorLO
import Derived.Test.YtkpjfhphohanlaaGreatDoorLT
import Derived.Deep.CutRange
set_option linter.unusedVariables false
set_option linter.unusedSimpArgs false
namespace Go.Proofs.YtkpjfhphohanlaaGreatDoor.JC
open Go.RowKit
open Go.Proofs.YtkpjfhphohanlaaGreatDoor.EC (row_lt heap_at rangeAt_below rangeAt_row ret_bool ret_i64 beq_int refPut_any refGet_any)

theorem fb_at {base : Nat} {w : World} {g n cap : Nat} {l : List UInt8} (h : FB base w (.slice (some ⟨g, 0, none⟩) n cap) l) (hn : n = l.length) (i : Nat) (hi : i < n) : w.cell? ⟨g, i, none⟩ = some (.int .u8 ((l.getD i 0).toNat : Int)) := by
  subst hn
  rw [World.ownsRow.cellAt h i (by omega), List.getElem?_map, List.getElem?_eq_getElem hi]
  simp [List.getD, List.getElem?_eq_getElem hi, B8]
theorem le_by (N k : Nat) (hk : k < 8) : ((W1.le 8 N).getD k 0).toNat = N / 256 ^ k % 256 := by
  have h := W1.le_get 8 N k hk
  rw [List.getD, h]
  show (UInt8.ofNat (N / 256 ^ k % 256)).toNat = _
  generalize N / 256 ^ k = q
  show (q % 256) % 256 = _
  omega
theorem bI5 (a b c d e : Int) (W : World) : (Instr.build 41 #[(0, .int .i64 a), (1, .int .i64 b), (2, .int .i64 c), (3, .int .i64 d), (4, .int .i64 e)]).run Tryz.prog W = .ok (.agg (iL ⟨a, b, c, d, e⟩).toArray) W := by kernel_rfl
/-- The four low bytes, in memory. -/
structure SG (g : Nat) (b0 b1 b2 b3 : Int) (X : World) : Prop where
  c0 : X.cell? ⟨g, 0, none⟩ = some (.int .u8 b0)
  c1 : X.cell? ⟨g, 1, none⟩ = some (.int .u8 b1)
  c2 : X.cell? ⟨g, 2, none⟩ = some (.int .u8 b2)
  c3 : X.cell? ⟨g, 3, none⟩ = some (.int .u8 b3)
theorem SG.below {g : Nat} {b0 b1 b2 b3 : Int} {X Y : World} (h : SG g b0 b1 b2 b3 X) (hb : Below X.heap.size X Y) : SG g b0 b1 b2 b3 Y := ⟨(hb.cell (block_lt h.c0)).trans h.c0, (hb.cell (block_lt h.c1)).trans h.c1, (hb.cell (block_lt h.c2)).trans h.c2, (hb.cell (block_lt h.c3)).trans h.c3⟩
theorem le_dr : ∀ (j k N : Nat), (W1.le (j + k) N).drop j = W1.le k (N / 256 ^ j)
  | 0, k, N => by simp
  | j + 1, k, N => by
    rw [show j + 1 + k = (j + k) + 1 by omega]
    show (W1.le (j + k) (N / 256)).drop j = _
    rw [le_dr j k (N / 256), Nat.div_div_eq_div_mul, Nat.pow_succ, Nat.mul_comm]
theorem le_hi (N : Nat) (h : N < 18446744073709551616) : W1.num ((W1.le 8 N).drop 4) = N / 4294967296 := by
  rw [le_dr 4 4 N, W1.num_le]
  have e : (256 : Nat) ^ 4 = 4294967296 := by decide
  rw [e]; omega
set_option maxHeartbeats 1000000 in
set_option maxRecDepth 100000 in
theorem rdec_any (n : Int) (h0 : 0 ≤ n) (h1 : n < 18446744073709551616) (w : World) : Calls Tryz.prog 24 #[.int .u64 n] w fun e w' => e = .returned (rdRes (dec n)) ∧ Below w.heap.size w w' := by
  have HD : Hid (dec n = if may (wi n) = true then some (wi n) else none) := rfl
  have hM := fun W => rmay_any (wi n) W
  have HBI : Hid (∀ W, (Instr.build 41 #[(0, .int .i64 (n % 256)), (1, .int .i64 (n / 256 % 256)), (2, .int .i64 (n / 65536 % 256)), (3, .int .i64 (n / 16777216 % 256)), (4, .int .i64 (sx (n / 4294967296)))]).run Tryz.prog W = .ok (.agg (iL (wi n)).toArray) W) := fun W => bI5 _ _ _ _ _ W
  rw [show iV (wi n) = .agg (iL (wi n)).toArray from rfl] at hM
  have HIV : Hid (.agg (iL (wi n)).toArray = iV (wi n)) := rfl
  have HLN : Hid ((iL (wi n)).length = 5) := rfl
  have HL1 : Hid ((iL (wi n)).toArray.all (·.oneCell') = true) := iL_one _
  generalize iL (wi n) = IL at *
  obtain ⟨N, hN⟩ : ∃ N : Nat, n = N := ⟨n.toNat, by omega⟩
  have hNb : N < 18446744073709551616 := by omega
  have hP : ∀ W, Calls Tryz.prog 42 #[.int .u64 n, .int .i64 8] W fun e w' => ∃ v, e = .returned v ∧ FB W.heap.size w' v (W1.le 8 N) ∧ Below W.heap.size W w' := fun W => by rw [hN]; exact refPut_any N 8 W hNb (by decide)
  have HY0 : Hid ((((W1.le 8 N).getD 0 0).toNat : Int) = n % 256) := by show _ = _; rw [le_by N 0 (by decide), hN]; simp
  have HY1 : Hid ((((W1.le 8 N).getD 1 0).toNat : Int) = n / 256 % 256) := by show _ = _; rw [le_by N 1 (by decide), hN, show (256 : Nat) ^ 1 = 256 by decide]; omega
  have HY2 : Hid ((((W1.le 8 N).getD 2 0).toNat : Int) = n / 65536 % 256) := by show _ = _; rw [le_by N 2 (by decide), hN, show (256 : Nat) ^ 2 = 65536 by decide]; omega
  have HY3 : Hid ((((W1.le 8 N).getD 3 0).toNat : Int) = n / 16777216 % 256) := by show _ = _; rw [le_by N 3 (by decide), hN, show (256 : Nat) ^ 3 = 16777216 by decide]; omega
  have HHI : Hid ((W1.num ((W1.le 8 N).drop 4) : Int) = n / 4294967296) := by show _ = _; rw [le_hi N hNb, hN]; omega
  have HL8 : Hid ((W1.le 8 N).length = 8) := W1.le_length _ _
  obtain ⟨BL, hBL⟩ : ∃ l, l = W1.le 8 N := ⟨_, rfl⟩
  rw [← hBL] at hP HY0 HY1 HY2 HY3 HHI HL8
  clear hBL hNb hN
  obtain ⟨ZI, hZI⟩ : ∃ ZI : List Value, ZI = iL iZ := ⟨_, rfl⟩
  have hzi : ∀ W, (zeroValue 41).run Tryz.prog W = .ok (.agg ZI.toArray) W := fun W => by rw [hZI]; exact ins_zero W
  have HBZ : Hid (∀ W, (Instr.build 41 #[]).run Tryz.prog W = .ok (.agg ZI.toArray) W) := fun W => by rw [hZI]; exact bz W
  have HII : Hid (∀ L : List Value, L.length = 5 → (Tryz.prog.info? 41).map (·.size) = some L.toArray.size) := fun L h => by rw [List.size_toArray, h]; exact ins_info iZ
  have HII2 : Hid (∀ L : List Value, L.length = 5 → (Tryz.prog.info? 41).map (·.size) = some L.length) := fun L h => by rw [h]; exact ins_info iZ
  have HZN : Hid (ZI.length = 5) := by rw [hZI]; rfl
  have HZ1 : Hid (ZI.toArray.all (·.oneCell') = true) := by show _ = _; rw [hZI]; exact iL_one _
  have HZA : Hid _ := hZI
  have HB0 : Hid (Below w.heap.size w (w.alloc (.cells ZI.toArray 41 (0, 0)))) := (Below.refl _ _).alloc (Nat.le_refl _) _
  have HR0 : Hid ((w.alloc (.cells ZI.toArray 41 (0, 0))).heap[w.heap.size]? = some (.cells ZI.toArray 41 (0, 0))) := heap_alloc_new _ _
  clear hZI
  go_enter Tryz.func24, Tryz.ntmps24
  go_wp2_with fail
  refine Calls.mono (hP _) ?_
  rintro e W1 ⟨v, rfl, hf, hb1⟩
  clear hP
  obtain ⟨g, cap, rfl, hgb, hglt⟩ := World.ownsRow.form hf (by rw [HL8.out]; decide)
  have hcap : 8 ≤ cap := by
    rcases hf.2 with ⟨h, _⟩ | ⟨_, _, _, h, _, _, h3, _⟩
    · cases h
    · cases h; rw [HL8.out] at h3; exact h3
  have HC : Hid (∀ i, i < 8 → W1.cell? ⟨g, i, none⟩ = some (.int .u8 ((BL.getD i 0).toNat : Int))) := fun i hi => fb_at hf rfl i (by rw [HL8.out]; exact hi)
  have HB1 : Hid (Below w.heap.size w W1) := HB0.out.trans (hb1.mono HB0.out.size)
  have HR1 : Hid (W1.heap[w.heap.size]? = some (.cells ZI.toArray 41 (0, 0))) := (hb1.block _ (row_lt HR0.out)).trans HR0.out
  clear hf hb1 hgb hglt HB0 HR0
  have hl8 := HL8.out
  rw [hl8]
  have HSG : Hid (SG g (n % 256) (n / 256 % 256) (n / 65536 % 256) (n / 16777216 % 256) W1) := ⟨by rw [← HY0.out]; exact HC.out 0 (by decide), by rw [← HY1.out]; exact HC.out 1 (by decide), by rw [← HY2.out]; exact HC.out 2 (by decide), by rw [← HY3.out]; exact HC.out 3 (by decide)⟩
  have hG : Calls Tryz.prog 43 #[.slice (some ⟨g, 4, none⟩) 4 (cap - 4)] W1 fun e w' => e = .returned (.int .u64 (n / 4294967296)) ∧ W1 = w' := by
    have hln : (BL.drop 4).length = 4 := by rw [List.length_drop, HL8.out]
    have := refGet_any g 4 (cap - 4) (BL.drop 4) W1 (by omega) (fun i hi => by
      have hh := HC.out (4 + i) (by omega)
      rw [hh]
      simp [List.getD, List.getElem?_drop])
    rw [hln, HHI.out] at this
    exact this
  have HW0 : Hid (IntKind.i64.wrap (n % 256) = n % 256) := by show _ = _; rw [IntKind.wrap_i64]; omega
  have HW1 : Hid (IntKind.i64.wrap (n / 256 % 256) = n / 256 % 256) := by show _ = _; rw [IntKind.wrap_i64]; omega
  have HW2 : Hid (IntKind.i64.wrap (n / 65536 % 256) = n / 65536 % 256) := by show _ = _; rw [IntKind.wrap_i64]; omega
  have HW3 : Hid (IntKind.i64.wrap (n / 16777216 % 256) = n / 16777216 % 256) := by show _ = _; rw [IntKind.wrap_i64]; omega
  have hm0 : 0 ≤ n / 4294967296 ∧ n / 4294967296 < 4294967296 := by omega
  have HX : Hid (sx (n / 4294967296) = if 2147483648 ≤ n / 4294967296 then n / 4294967296 - 4294967296 else n / 4294967296) := rfl
  have HMW : Hid (dec n = if may (wi n) = true then some (wi n) else none) := HD.out
  clear HC HY0 HY1 HY2 HY3 HHI HL8 hl8 HD
  generalize wi n = WI at *
  generalize n % 256 = b0 at *
  generalize n / 256 % 256 = b1 at *
  generalize n / 65536 % 256 = b2 at *
  generalize n / 16777216 % 256 = b3 at *
  generalize n / 4294967296 = m at *
  go_wp2_with fail
  refine Calls.mono hG ?_
  rintro e wq ⟨rfl, rfl⟩
  clear hG
  have e5 : IntKind.i64.wrap m = m := by rw [IntKind.wrap_i64]; omega
  by_cases hbig : 2147483648 ≤ m
  · have HX2 : Hid (sx m = m - 4294967296) := by show _ = _; rw [HX.out, if_pos hbig]
    have e6 : IntKind.i64.wrap (m - 4294967296) = m - 4294967296 := by rw [IntKind.wrap_i64]; omega
    rw [HX2.out] at HBI
    have hbg : (2147483648 : Int) ≤ m := hbig
    clear HX HX2
    go_upto_region 5 with fail
    refine wp_region_held_drew (S := SG g b0 b1 b2 b3) (by kernel_rfl) (HSG.out.below (Below.drew (Below.refl _ _))) (fun hHeld => ?_)
    have HBD : Hid (Below w.heap.size w W1.drew) := HB1.out.trans ((Below.drew (Below.refl _ _)).mono HB1.out.size)
    have HRD : Hid (W1.drew.heap[w.heap.size]? = some (.cells ZI.toArray 41 (0, 0))) := HR1.out
    clear HSG HB1 HR1
    generalize W1.drew = W at *
    refine wpAnyH_take (i := 0) (oi := { dst := some 17, op := Go.Op.move (Go.Operand.tmp 4), type := 66, pos := _, after := #[], guard := none }) (v := .slice (some ⟨g, 0, none⟩) 8 cap) rfl (by kernel_rfl) (by kernel_rfl) (by kernel_rfl) (fun _ _ _ h => h) (Or.inl ⟨by rfl, fun w' hw' => ?_⟩) hHeld ?_
    · first | (go_simp; done) | (go_simp; rfl)
    try simp only [Act.put, List.setIfInBounds_toArray, List.set_cons_zero, List.set_cons_succ]
    refine wpAnyH_take (i := 1) (oi := { dst := some 18, op := Go.Op.indexAddr 66 (Go.Operand.tmp 17) (Go.Operand.const (Go.Value.int Go.IntKind.i64 0)), type := 0, pos := _, after := #[{ on := 0, ground := Go.Ground.data }], guard := none }) (v := .pointer (some ⟨g, 0, none⟩)) rfl (by kernel_rfl) (by kernel_rfl) (by kernel_rfl) (fun _ _ _ h => h) (Or.inl ⟨by rfl, fun w' hw' => ?_⟩) hHeld ?_
    · first | (go_simp; done) | (go_simp; rfl)
    try simp only [Act.put, List.setIfInBounds_toArray, List.set_cons_zero, List.set_cons_succ]
    refine wpAnyH_take (i := 2) (oi := { dst := some 19, op := Go.Op.load 5 (Go.Operand.tmp 18), type := 5, pos := _, after := #[{ on := 1, ground := Go.Ground.data }], guard := none }) (v := .int .u8 b0) rfl (by kernel_rfl) (by kernel_rfl) (by kernel_rfl) (fun _ _ _ h => h) (Or.inl ⟨by rfl, fun w' hw' => ?_⟩) hHeld ?_
    · have hcc := hw'.c0; first | (go_simp; done) | (go_simp; rfl)
    try simp only [Act.put, List.setIfInBounds_toArray, List.set_cons_zero, List.set_cons_succ]
    refine wpAnyH_take (i := 3) (oi := { dst := some 20, op := Go.Op.convert 5 39 (Go.Operand.tmp 19), type := 39, pos := _, after := #[{ on := 2, ground := Go.Ground.data }], guard := none }) (v := .int .i64 b0) rfl (by kernel_rfl) (by kernel_rfl) (by kernel_rfl) (fun _ _ _ h => h) (Or.inl ⟨by rfl, fun w' hw' => ?_⟩) hHeld ?_
    · have hcc := HW0.out; first | (go_simp; done) | (go_simp; rfl) | (rw [hcc]; go_simp; done)
    try simp only [Act.put, List.setIfInBounds_toArray, List.set_cons_zero, List.set_cons_succ]
    refine wpAnyH_take (i := 4) (oi := { dst := some 21, op := Go.Op.move (Go.Operand.tmp 4), type := 66, pos := _, after := #[], guard := none }) (v := .slice (some ⟨g, 0, none⟩) 8 cap) rfl (by kernel_rfl) (by kernel_rfl) (by kernel_rfl) (fun _ _ _ h => h) (Or.inl ⟨by rfl, fun w' hw' => ?_⟩) hHeld ?_
    · first | (go_simp; done) | (go_simp; rfl)
    try simp only [Act.put, List.setIfInBounds_toArray, List.set_cons_zero, List.set_cons_succ]
    refine wpAnyH_take (i := 5) (oi := { dst := some 22, op := Go.Op.indexAddr 66 (Go.Operand.tmp 21) (Go.Operand.const (Go.Value.int Go.IntKind.i64 1)), type := 0, pos := _, after := #[{ on := 4, ground := Go.Ground.data }], guard := none }) (v := .pointer (some ⟨g, 1, none⟩)) rfl (by kernel_rfl) (by kernel_rfl) (by kernel_rfl) (fun _ _ _ h => h) (Or.inl ⟨by rfl, fun w' hw' => ?_⟩) hHeld ?_
    · first | (go_simp; done) | (go_simp; rfl)
    try simp only [Act.put, List.setIfInBounds_toArray, List.set_cons_zero, List.set_cons_succ]
    refine wpAnyH_take (i := 6) (oi := { dst := some 23, op := Go.Op.load 5 (Go.Operand.tmp 22), type := 5, pos := _, after := #[{ on := 5, ground := Go.Ground.data }], guard := none }) (v := .int .u8 b1) rfl (by kernel_rfl) (by kernel_rfl) (by kernel_rfl) (fun _ _ _ h => h) (Or.inl ⟨by rfl, fun w' hw' => ?_⟩) hHeld ?_
    · have hcc := hw'.c1; first | (go_simp; done) | (go_simp; rfl)
    try simp only [Act.put, List.setIfInBounds_toArray, List.set_cons_zero, List.set_cons_succ]
    refine wpAnyH_take (i := 7) (oi := { dst := some 24, op := Go.Op.convert 5 3 (Go.Operand.tmp 23), type := 3, pos := _, after := #[{ on := 6, ground := Go.Ground.data }], guard := none }) (v := .int .i64 b1) rfl (by kernel_rfl) (by kernel_rfl) (by kernel_rfl) (fun _ _ _ h => h) (Or.inl ⟨by rfl, fun w' hw' => ?_⟩) hHeld ?_
    · have hcc := HW1.out; first | (go_simp; done) | (go_simp; rfl) | (rw [hcc]; go_simp; done)
    try simp only [Act.put, List.setIfInBounds_toArray, List.set_cons_zero, List.set_cons_succ]
    refine wpAnyH_take (i := 8) (oi := { dst := some 25, op := Go.Op.move (Go.Operand.tmp 4), type := 66, pos := _, after := #[], guard := none }) (v := .slice (some ⟨g, 0, none⟩) 8 cap) rfl (by kernel_rfl) (by kernel_rfl) (by kernel_rfl) (fun _ _ _ h => h) (Or.inl ⟨by rfl, fun w' hw' => ?_⟩) hHeld ?_
    · first | (go_simp; done) | (go_simp; rfl)
    try simp only [Act.put, List.setIfInBounds_toArray, List.set_cons_zero, List.set_cons_succ]
    refine wpAnyH_take (i := 9) (oi := { dst := some 26, op := Go.Op.indexAddr 66 (Go.Operand.tmp 25) (Go.Operand.const (Go.Value.int Go.IntKind.i64 2)), type := 0, pos := _, after := #[{ on := 8, ground := Go.Ground.data }], guard := none }) (v := .pointer (some ⟨g, 2, none⟩)) rfl (by kernel_rfl) (by kernel_rfl) (by kernel_rfl) (fun _ _ _ h => h) (Or.inl ⟨by rfl, fun w' hw' => ?_⟩) hHeld ?_
    · first | (go_simp; done) | (go_simp; rfl)
    try simp only [Act.put, List.setIfInBounds_toArray, List.set_cons_zero, List.set_cons_succ]
    refine wpAnyH_take (i := 10) (oi := { dst := some 27, op := Go.Op.load 5 (Go.Operand.tmp 26), type := 5, pos := _, after := #[{ on := 9, ground := Go.Ground.data }], guard := none }) (v := .int .u8 b2) rfl (by kernel_rfl) (by kernel_rfl) (by kernel_rfl) (fun _ _ _ h => h) (Or.inl ⟨by rfl, fun w' hw' => ?_⟩) hHeld ?_
    · have hcc := hw'.c2; first | (go_simp; done) | (go_simp; rfl)
    try simp only [Act.put, List.setIfInBounds_toArray, List.set_cons_zero, List.set_cons_succ]
    refine wpAnyH_take (i := 11) (oi := { dst := some 28, op := Go.Op.convert 5 3 (Go.Operand.tmp 27), type := 3, pos := _, after := #[{ on := 10, ground := Go.Ground.data }], guard := none }) (v := .int .i64 b2) rfl (by kernel_rfl) (by kernel_rfl) (by kernel_rfl) (fun _ _ _ h => h) (Or.inl ⟨by rfl, fun w' hw' => ?_⟩) hHeld ?_
    · have hcc := HW2.out; first | (go_simp; done) | (go_simp; rfl) | (rw [hcc]; go_simp; done)
    try simp only [Act.put, List.setIfInBounds_toArray, List.set_cons_zero, List.set_cons_succ]
    refine wpAnyH_take (i := 12) (oi := { dst := some 29, op := Go.Op.move (Go.Operand.tmp 4), type := 66, pos := _, after := #[], guard := none }) (v := .slice (some ⟨g, 0, none⟩) 8 cap) rfl (by kernel_rfl) (by kernel_rfl) (by kernel_rfl) (fun _ _ _ h => h) (Or.inl ⟨by rfl, fun w' hw' => ?_⟩) hHeld ?_
    · first | (go_simp; done) | (go_simp; rfl)
    try simp only [Act.put, List.setIfInBounds_toArray, List.set_cons_zero, List.set_cons_succ]
    refine wpAnyH_take (i := 13) (oi := { dst := some 30, op := Go.Op.indexAddr 66 (Go.Operand.tmp 29) (Go.Operand.const (Go.Value.int Go.IntKind.i64 3)), type := 0, pos := _, after := #[{ on := 12, ground := Go.Ground.data }], guard := none }) (v := .pointer (some ⟨g, 3, none⟩)) rfl (by kernel_rfl) (by kernel_rfl) (by kernel_rfl) (fun _ _ _ h => h) (Or.inl ⟨by rfl, fun w' hw' => ?_⟩) hHeld ?_
    · first | (go_simp; done) | (go_simp; rfl)
    try simp only [Act.put, List.setIfInBounds_toArray, List.set_cons_zero, List.set_cons_succ]
    refine wpAnyH_take (i := 14) (oi := { dst := some 31, op := Go.Op.load 5 (Go.Operand.tmp 30), type := 5, pos := _, after := #[{ on := 13, ground := Go.Ground.data }], guard := none }) (v := .int .u8 b3) rfl (by kernel_rfl) (by kernel_rfl) (by kernel_rfl) (fun _ _ _ h => h) (Or.inl ⟨by rfl, fun w' hw' => ?_⟩) hHeld ?_
    · have hcc := hw'.c3; first | (go_simp; done) | (go_simp; rfl)
    try simp only [Act.put, List.setIfInBounds_toArray, List.set_cons_zero, List.set_cons_succ]
    refine wpAnyH_take (i := 15) (oi := { dst := some 32, op := Go.Op.convert 5 3 (Go.Operand.tmp 31), type := 3, pos := _, after := #[{ on := 14, ground := Go.Ground.data }], guard := none }) (v := .int .i64 b3) rfl (by kernel_rfl) (by kernel_rfl) (by kernel_rfl) (fun _ _ _ h => h) (Or.inl ⟨by rfl, fun w' hw' => ?_⟩) hHeld ?_
    · have hcc := HW3.out; first | (go_simp; done) | (go_simp; rfl) | (rw [hcc]; go_simp; done)
    try simp only [Act.put, List.setIfInBounds_toArray, List.set_cons_zero, List.set_cons_succ]
    refine wpAnyH_take (i := 16) (oi := { dst := some 33, op := Go.Op.move (Go.Operand.tmp 5), type := 2, pos := _, after := #[], guard := none }) (v := .int .i64 (m - 4294967296)) rfl (by kernel_rfl) (by kernel_rfl) (by kernel_rfl) (fun _ _ _ h => h) (Or.inl ⟨by rfl, fun w' hw' => ?_⟩) hHeld ?_
    · first | (go_simp; done) | (go_simp; rfl)
    try simp only [Act.put, List.setIfInBounds_toArray, List.set_cons_zero, List.set_cons_succ]
    refine wpAnyH_take (i := 17) (oi := { dst := some 34, op := Go.Op.build 41 #[(0, Go.Operand.tmp 20), (1, Go.Operand.tmp 24), (2, Go.Operand.tmp 28), (3, Go.Operand.tmp 32), (4, Go.Operand.tmp 33)], type := 41, pos := _, after := #[{ on := 3, ground := Go.Ground.data }, { on := 7, ground := Go.Ground.data }, { on := 11, ground := Go.Ground.data }, { on := 15, ground := Go.Ground.data }, { on := 16, ground := Go.Ground.data }], guard := none }) (v := .agg IL.toArray) rfl (by kernel_rfl) (by kernel_rfl) (by kernel_rfl) (fun _ _ _ h => h) (Or.inl ⟨by rfl, fun w' hw' => ?_⟩) hHeld ?_
    · exact exec_build _ _ _ _ _ _ _ rfl (by first | (simp [Act.eval]; done) | (simp [Act.eval]; rfl)) (HBI.out _)
    try simp only [Act.put, List.setIfInBounds_toArray, List.set_cons_zero, List.set_cons_succ]
    refine wpAnyH_ready (rs := [18]) (by kernel_rfl) (by simp) ?_
    refine AllReadyH.cons (o := { dst := some 6, op := Go.Op.alloc 41, type := 0, pos := _, after := #[], guard := none }) rfl (fun K hK => ?_) AllReadyH.nil
    rw [if_pos (by rfl)]
    have HQ : Hid ((W.alloc (.cells ZI.toArray 41 (0, 0))).heap[W.heap.size]? = some (.cells ZI.toArray 41 (0, 0))) := heap_alloc_new _ _
    go_wp2
    have hHeldW := hHeld
    refine hK.out _ _ (hHeld.below ((Below.refl _ _).alloc (Nat.le_refl _) _)) (fun _ => ?_)
    clear hK K
    try simp only [Act.put, List.setIfInBounds_toArray, List.set_cons_zero, List.set_cons_succ]
    refine wpAnyH_ready (rs := [19]) (by kernel_rfl) (by simp) ?_
    refine AllReadyH.cons (o := { dst := none, op := Go.Op.store 41 (Go.Operand.tmp 6) (Go.Operand.tmp 34), type := 0, pos := _, after := #[{ on := 18, ground := Go.Ground.data }, { on := 17, ground := Go.Ground.data }, { on := 0, ground := Go.Ground.phase }, { on := 1, ground := Go.Ground.phase }, { on := 2, ground := Go.Ground.phase }, { on := 3, ground := Go.Ground.phase }, { on := 4, ground := Go.Ground.phase }, { on := 5, ground := Go.Ground.phase }, { on := 6, ground := Go.Ground.phase }, { on := 7, ground := Go.Ground.phase }, { on := 8, ground := Go.Ground.phase }, { on := 9, ground := Go.Ground.phase }, { on := 10, ground := Go.Ground.phase }, { on := 11, ground := Go.Ground.phase }, { on := 12, ground := Go.Ground.phase }, { on := 13, ground := Go.Ground.phase }, { on := 14, ground := Go.Ground.phase }, { on := 15, ground := Go.Ground.phase }, { on := 16, ground := Go.Ground.phase }, { on := 17, ground := Go.Ground.phase }, { on := 18, ground := Go.Ground.phase }], guard := none }) rfl (fun K hK => ?_) AllReadyH.nil
    rw [if_pos (by rfl)]
    refine wp_store_row 41 _ _ rfl W.heap.size IL.toArray rfl rfl 41 ZI.toArray HQ.out (HII.out IL HLN.out) (by simp [HZN.out, HLN.out]) HL1.out ?_
    obtain ⟨pY, rY⟩ := put_row W ZI IL 41
    have hSY := hHeldW.below pY
    have HBY : Hid (Below w.heap.size w ((W.alloc (.cells ZI.toArray 41 (0, 0))).setRow W.heap.size IL.toArray)) := HBD.out.trans (pY.mono HBD.out.size)
    have HRY : Hid (((W.alloc (.cells ZI.toArray 41 (0, 0))).setRow W.heap.size IL.toArray).heap[w.heap.size]? = some (.cells ZI.toArray 41 (0, 0))) := (pY.block _ (row_lt HRD.out)).trans HRD.out
    have HIY : Hid (((W.alloc (.cells ZI.toArray 41 (0, 0))).setRow W.heap.size IL.toArray).heap[W.heap.size]? = some (.cells IL.toArray 41 (0, 0))) := rY
    clear pY rY HQ HBD HRD
    generalize ((W.alloc (.cells ZI.toArray 41 (0, 0))).setRow W.heap.size IL.toArray) = Y at *
    refine hK.out _ _ hSY (fun _ => ?_)
    clear hK K
    try simp only [Act.put, List.setIfInBounds_toArray, List.set_cons_zero, List.set_cons_succ]
    refine wpAnyH_done (by kernel_rfl) ?_ _
    go_wp2_with (refine wpList_load_mid rfl 41 _ rfl W.heap.size 0 rfl IL _ (rangeAt_row HIY.out) Tryz.underlying41 rfl (HII2.out _ HLN.out) ?_)
    refine Calls.mono (hM _) ?_
    rintro e Z ⟨rfl, hbZ⟩
    have HIZ : Hid _ := (hbZ.block _ (row_lt HIY.out)).trans HIY.out
    have HRZ : Hid _ := (hbZ.block _ (row_lt HRY.out)).trans HRY.out
    have HBZ2 : Hid _ := HBY.out.trans (hbZ.mono HBY.out.size)
    clear hbZ HIY HRY HBY hM
    cases hm : may WI
    · have HDN : Hid (dec n = none) := by show _ = _; rw [HMW.out, hm]; rfl
      clear hm HMW
      go_wp2_with (first
        | (refine wpList_build rfl 41 #[] rfl #[] (.agg ZI.toArray) (by simp) (HBZ.out _) ?_)
        | (refine wpList_store_row rfl 41 _ _ rfl w.heap.size ZI.toArray rfl rfl 41 ZI.toArray HRZ.out (HII.out ZI HZN.out) rfl HZ1.out ?_))
      refine bodyPost_ret (v := .tuple #[.agg ZI.toArray, .bool false]) (results2 Tryz.results24 _ _ w.heap.size 41 ZI (0, 0) _ rfl rfl (setRow_heap _ _ _ _ _ _ HRZ.out) Tryz.underlying41 rfl (HII2.out ZI HZN.out)) rfl ⟨?_, below_setRow HBZ2.out (Nat.le_refl _) _⟩
      rw [HDN.out, HZA.out]; rfl
    · have HDN : Hid (dec n = some WI) := by show _ = _; rw [HMW.out, hm]; rfl
      clear hm HMW
      go_wp2_with (first
        | (refine wpList_load_mid rfl 41 _ rfl W.heap.size 0 rfl IL _ (rangeAt_row HIZ.out) Tryz.underlying41 rfl (HII2.out _ HLN.out) ?_)
        | (refine wpList_store_row rfl 41 _ _ rfl w.heap.size IL.toArray rfl rfl 41 ZI.toArray HRZ.out (HII.out IL HLN.out) (by simp [HZN.out, HLN.out]) HL1.out ?_))
      refine bodyPost_ret (v := .tuple #[.agg IL.toArray, .bool true]) (results2 Tryz.results24 _ _ w.heap.size 41 IL (0, 0) _ rfl rfl (setRow_heap _ _ _ _ _ _ HRZ.out) Tryz.underlying41 rfl (HII2.out IL HLN.out)) rfl ⟨?_, below_setRow HBZ2.out (Nat.le_refl _) _⟩
      rw [HDN.out, HIV.out]; rfl
  · have HX2 : Hid (sx m = m) := by show _ = _; rw [HX.out, if_neg hbig]
    rw [HX2.out] at HBI
    clear HX HX2
    go_upto_region 5 with fail
    refine wp_region_held_drew (S := SG g b0 b1 b2 b3) (by kernel_rfl) (HSG.out.below (Below.drew (Below.refl _ _))) (fun hHeld => ?_)
    have HBD : Hid (Below w.heap.size w W1.drew) := HB1.out.trans ((Below.drew (Below.refl _ _)).mono HB1.out.size)
    have HRD : Hid (W1.drew.heap[w.heap.size]? = some (.cells ZI.toArray 41 (0, 0))) := HR1.out
    clear HSG HB1 HR1
    generalize W1.drew = W at *
    refine wpAnyH_take (i := 0) (oi := { dst := some 17, op := Go.Op.move (Go.Operand.tmp 4), type := 66, pos := _, after := #[], guard := none }) (v := .slice (some ⟨g, 0, none⟩) 8 cap) rfl (by kernel_rfl) (by kernel_rfl) (by kernel_rfl) (fun _ _ _ h => h) (Or.inl ⟨by rfl, fun w' hw' => ?_⟩) hHeld ?_
    · first | (go_simp; done) | (go_simp; rfl)
    try simp only [Act.put, List.setIfInBounds_toArray, List.set_cons_zero, List.set_cons_succ]
    refine wpAnyH_take (i := 1) (oi := { dst := some 18, op := Go.Op.indexAddr 66 (Go.Operand.tmp 17) (Go.Operand.const (Go.Value.int Go.IntKind.i64 0)), type := 0, pos := _, after := #[{ on := 0, ground := Go.Ground.data }], guard := none }) (v := .pointer (some ⟨g, 0, none⟩)) rfl (by kernel_rfl) (by kernel_rfl) (by kernel_rfl) (fun _ _ _ h => h) (Or.inl ⟨by rfl, fun w' hw' => ?_⟩) hHeld ?_
    · first | (go_simp; done) | (go_simp; rfl)
    try simp only [Act.put, List.setIfInBounds_toArray, List.set_cons_zero, List.set_cons_succ]
    refine wpAnyH_take (i := 2) (oi := { dst := some 19, op := Go.Op.load 5 (Go.Operand.tmp 18), type := 5, pos := _, after := #[{ on := 1, ground := Go.Ground.data }], guard := none }) (v := .int .u8 b0) rfl (by kernel_rfl) (by kernel_rfl) (by kernel_rfl) (fun _ _ _ h => h) (Or.inl ⟨by rfl, fun w' hw' => ?_⟩) hHeld ?_
    · have hcc := hw'.c0; first | (go_simp; done) | (go_simp; rfl)
    try simp only [Act.put, List.setIfInBounds_toArray, List.set_cons_zero, List.set_cons_succ]
    refine wpAnyH_take (i := 3) (oi := { dst := some 20, op := Go.Op.convert 5 39 (Go.Operand.tmp 19), type := 39, pos := _, after := #[{ on := 2, ground := Go.Ground.data }], guard := none }) (v := .int .i64 b0) rfl (by kernel_rfl) (by kernel_rfl) (by kernel_rfl) (fun _ _ _ h => h) (Or.inl ⟨by rfl, fun w' hw' => ?_⟩) hHeld ?_
    · have hcc := HW0.out; first | (go_simp; done) | (go_simp; rfl) | (rw [hcc]; go_simp; done)
    try simp only [Act.put, List.setIfInBounds_toArray, List.set_cons_zero, List.set_cons_succ]
    refine wpAnyH_take (i := 4) (oi := { dst := some 21, op := Go.Op.move (Go.Operand.tmp 4), type := 66, pos := _, after := #[], guard := none }) (v := .slice (some ⟨g, 0, none⟩) 8 cap) rfl (by kernel_rfl) (by kernel_rfl) (by kernel_rfl) (fun _ _ _ h => h) (Or.inl ⟨by rfl, fun w' hw' => ?_⟩) hHeld ?_
    · first | (go_simp; done) | (go_simp; rfl)
    try simp only [Act.put, List.setIfInBounds_toArray, List.set_cons_zero, List.set_cons_succ]
    refine wpAnyH_take (i := 5) (oi := { dst := some 22, op := Go.Op.indexAddr 66 (Go.Operand.tmp 21) (Go.Operand.const (Go.Value.int Go.IntKind.i64 1)), type := 0, pos := _, after := #[{ on := 4, ground := Go.Ground.data }], guard := none }) (v := .pointer (some ⟨g, 1, none⟩)) rfl (by kernel_rfl) (by kernel_rfl) (by kernel_rfl) (fun _ _ _ h => h) (Or.inl ⟨by rfl, fun w' hw' => ?_⟩) hHeld ?_
    · first | (go_simp; done) | (go_simp; rfl)
    try simp only [Act.put, List.setIfInBounds_toArray, List.set_cons_zero, List.set_cons_succ]
    refine wpAnyH_take (i := 6) (oi := { dst := some 23, op := Go.Op.load 5 (Go.Operand.tmp 22), type := 5, pos := _, after := #[{ on := 5, ground := Go.Ground.data }], guard := none }) (v := .int .u8 b1) rfl (by kernel_rfl) (by kernel_rfl) (by kernel_rfl) (fun _ _ _ h => h) (Or.inl ⟨by rfl, fun w' hw' => ?_⟩) hHeld ?_
    · have hcc := hw'.c1; first | (go_simp; done) | (go_simp; rfl)
    try simp only [Act.put, List.setIfInBounds_toArray, List.set_cons_zero, List.set_cons_succ]
    refine wpAnyH_take (i := 7) (oi := { dst := some 24, op := Go.Op.convert 5 3 (Go.Operand.tmp 23), type := 3, pos := _, after := #[{ on := 6, ground := Go.Ground.data }], guard := none }) (v := .int .i64 b1) rfl (by kernel_rfl) (by kernel_rfl) (by kernel_rfl) (fun _ _ _ h => h) (Or.inl ⟨by rfl, fun w' hw' => ?_⟩) hHeld ?_
    · have hcc := HW1.out; first | (go_simp; done) | (go_simp; rfl) | (rw [hcc]; go_simp; done)
    try simp only [Act.put, List.setIfInBounds_toArray, List.set_cons_zero, List.set_cons_succ]
    refine wpAnyH_take (i := 8) (oi := { dst := some 25, op := Go.Op.move (Go.Operand.tmp 4), type := 66, pos := _, after := #[], guard := none }) (v := .slice (some ⟨g, 0, none⟩) 8 cap) rfl (by kernel_rfl) (by kernel_rfl) (by kernel_rfl) (fun _ _ _ h => h) (Or.inl ⟨by rfl, fun w' hw' => ?_⟩) hHeld ?_
    · first | (go_simp; done) | (go_simp; rfl)
    try simp only [Act.put, List.setIfInBounds_toArray, List.set_cons_zero, List.set_cons_succ]
    refine wpAnyH_take (i := 9) (oi := { dst := some 26, op := Go.Op.indexAddr 66 (Go.Operand.tmp 25) (Go.Operand.const (Go.Value.int Go.IntKind.i64 2)), type := 0, pos := _, after := #[{ on := 8, ground := Go.Ground.data }], guard := none }) (v := .pointer (some ⟨g, 2, none⟩)) rfl (by kernel_rfl) (by kernel_rfl) (by kernel_rfl) (fun _ _ _ h => h) (Or.inl ⟨by rfl, fun w' hw' => ?_⟩) hHeld ?_
    · first | (go_simp; done) | (go_simp; rfl)
    try simp only [Act.put, List.setIfInBounds_toArray, List.set_cons_zero, List.set_cons_succ]
    refine wpAnyH_take (i := 10) (oi := { dst := some 27, op := Go.Op.load 5 (Go.Operand.tmp 26), type := 5, pos := _, after := #[{ on := 9, ground := Go.Ground.data }], guard := none }) (v := .int .u8 b2) rfl (by kernel_rfl) (by kernel_rfl) (by kernel_rfl) (fun _ _ _ h => h) (Or.inl ⟨by rfl, fun w' hw' => ?_⟩) hHeld ?_
    · have hcc := hw'.c2; first | (go_simp; done) | (go_simp; rfl)
    try simp only [Act.put, List.setIfInBounds_toArray, List.set_cons_zero, List.set_cons_succ]
    refine wpAnyH_take (i := 11) (oi := { dst := some 28, op := Go.Op.convert 5 3 (Go.Operand.tmp 27), type := 3, pos := _, after := #[{ on := 10, ground := Go.Ground.data }], guard := none }) (v := .int .i64 b2) rfl (by kernel_rfl) (by kernel_rfl) (by kernel_rfl) (fun _ _ _ h => h) (Or.inl ⟨by rfl, fun w' hw' => ?_⟩) hHeld ?_
    · have hcc := HW2.out; first | (go_simp; done) | (go_simp; rfl) | (rw [hcc]; go_simp; done)
    try simp only [Act.put, List.setIfInBounds_toArray, List.set_cons_zero, List.set_cons_succ]
    refine wpAnyH_take (i := 12) (oi := { dst := some 29, op := Go.Op.move (Go.Operand.tmp 4), type := 66, pos := _, after := #[], guard := none }) (v := .slice (some ⟨g, 0, none⟩) 8 cap) rfl (by kernel_rfl) (by kernel_rfl) (by kernel_rfl) (fun _ _ _ h => h) (Or.inl ⟨by rfl, fun w' hw' => ?_⟩) hHeld ?_
    · first | (go_simp; done) | (go_simp; rfl)
    try simp only [Act.put, List.setIfInBounds_toArray, List.set_cons_zero, List.set_cons_succ]
    refine wpAnyH_take (i := 13) (oi := { dst := some 30, op := Go.Op.indexAddr 66 (Go.Operand.tmp 29) (Go.Operand.const (Go.Value.int Go.IntKind.i64 3)), type := 0, pos := _, after := #[{ on := 12, ground := Go.Ground.data }], guard := none }) (v := .pointer (some ⟨g, 3, none⟩)) rfl (by kernel_rfl) (by kernel_rfl) (by kernel_rfl) (fun _ _ _ h => h) (Or.inl ⟨by rfl, fun w' hw' => ?_⟩) hHeld ?_
    · first | (go_simp; done) | (go_simp; rfl)
    try simp only [Act.put, List.setIfInBounds_toArray, List.set_cons_zero, List.set_cons_succ]
    refine wpAnyH_take (i := 14) (oi := { dst := some 31, op := Go.Op.load 5 (Go.Operand.tmp 30), type := 5, pos := _, after := #[{ on := 13, ground := Go.Ground.data }], guard := none }) (v := .int .u8 b3) rfl (by kernel_rfl) (by kernel_rfl) (by kernel_rfl) (fun _ _ _ h => h) (Or.inl ⟨by rfl, fun w' hw' => ?_⟩) hHeld ?_
    · have hcc := hw'.c3; first | (go_simp; done) | (go_simp; rfl)
    try simp only [Act.put, List.setIfInBounds_toArray, List.set_cons_zero, List.set_cons_succ]
    refine wpAnyH_take (i := 15) (oi := { dst := some 32, op := Go.Op.convert 5 3 (Go.Operand.tmp 31), type := 3, pos := _, after := #[{ on := 14, ground := Go.Ground.data }], guard := none }) (v := .int .i64 b3) rfl (by kernel_rfl) (by kernel_rfl) (by kernel_rfl) (fun _ _ _ h => h) (Or.inl ⟨by rfl, fun w' hw' => ?_⟩) hHeld ?_
    · have hcc := HW3.out; first | (go_simp; done) | (go_simp; rfl) | (rw [hcc]; go_simp; done)
    try simp only [Act.put, List.setIfInBounds_toArray, List.set_cons_zero, List.set_cons_succ]
    refine wpAnyH_take (i := 16) (oi := { dst := some 33, op := Go.Op.move (Go.Operand.tmp 5), type := 2, pos := _, after := #[], guard := none }) (v := .int .i64 (m)) rfl (by kernel_rfl) (by kernel_rfl) (by kernel_rfl) (fun _ _ _ h => h) (Or.inl ⟨by rfl, fun w' hw' => ?_⟩) hHeld ?_
    · first | (go_simp; done) | (go_simp; rfl)
    try simp only [Act.put, List.setIfInBounds_toArray, List.set_cons_zero, List.set_cons_succ]
    refine wpAnyH_take (i := 17) (oi := { dst := some 34, op := Go.Op.build 41 #[(0, Go.Operand.tmp 20), (1, Go.Operand.tmp 24), (2, Go.Operand.tmp 28), (3, Go.Operand.tmp 32), (4, Go.Operand.tmp 33)], type := 41, pos := _, after := #[{ on := 3, ground := Go.Ground.data }, { on := 7, ground := Go.Ground.data }, { on := 11, ground := Go.Ground.data }, { on := 15, ground := Go.Ground.data }, { on := 16, ground := Go.Ground.data }], guard := none }) (v := .agg IL.toArray) rfl (by kernel_rfl) (by kernel_rfl) (by kernel_rfl) (fun _ _ _ h => h) (Or.inl ⟨by rfl, fun w' hw' => ?_⟩) hHeld ?_
    · exact exec_build _ _ _ _ _ _ _ rfl (by first | (simp [Act.eval]; done) | (simp [Act.eval]; rfl)) (HBI.out _)
    try simp only [Act.put, List.setIfInBounds_toArray, List.set_cons_zero, List.set_cons_succ]
    refine wpAnyH_ready (rs := [18]) (by kernel_rfl) (by simp) ?_
    refine AllReadyH.cons (o := { dst := some 6, op := Go.Op.alloc 41, type := 0, pos := _, after := #[], guard := none }) rfl (fun K hK => ?_) AllReadyH.nil
    rw [if_pos (by rfl)]
    have HQ : Hid ((W.alloc (.cells ZI.toArray 41 (0, 0))).heap[W.heap.size]? = some (.cells ZI.toArray 41 (0, 0))) := heap_alloc_new _ _
    go_wp2
    have hHeldW := hHeld
    refine hK.out _ _ (hHeld.below ((Below.refl _ _).alloc (Nat.le_refl _) _)) (fun _ => ?_)
    clear hK K
    try simp only [Act.put, List.setIfInBounds_toArray, List.set_cons_zero, List.set_cons_succ]
    refine wpAnyH_ready (rs := [19]) (by kernel_rfl) (by simp) ?_
    refine AllReadyH.cons (o := { dst := none, op := Go.Op.store 41 (Go.Operand.tmp 6) (Go.Operand.tmp 34), type := 0, pos := _, after := #[{ on := 18, ground := Go.Ground.data }, { on := 17, ground := Go.Ground.data }, { on := 0, ground := Go.Ground.phase }, { on := 1, ground := Go.Ground.phase }, { on := 2, ground := Go.Ground.phase }, { on := 3, ground := Go.Ground.phase }, { on := 4, ground := Go.Ground.phase }, { on := 5, ground := Go.Ground.phase }, { on := 6, ground := Go.Ground.phase }, { on := 7, ground := Go.Ground.phase }, { on := 8, ground := Go.Ground.phase }, { on := 9, ground := Go.Ground.phase }, { on := 10, ground := Go.Ground.phase }, { on := 11, ground := Go.Ground.phase }, { on := 12, ground := Go.Ground.phase }, { on := 13, ground := Go.Ground.phase }, { on := 14, ground := Go.Ground.phase }, { on := 15, ground := Go.Ground.phase }, { on := 16, ground := Go.Ground.phase }, { on := 17, ground := Go.Ground.phase }, { on := 18, ground := Go.Ground.phase }], guard := none }) rfl (fun K hK => ?_) AllReadyH.nil
    rw [if_pos (by rfl)]
    refine wp_store_row 41 _ _ rfl W.heap.size IL.toArray rfl rfl 41 ZI.toArray HQ.out (HII.out IL HLN.out) (by simp [HZN.out, HLN.out]) HL1.out ?_
    obtain ⟨pY, rY⟩ := put_row W ZI IL 41
    have hSY := hHeldW.below pY
    have HBY : Hid (Below w.heap.size w ((W.alloc (.cells ZI.toArray 41 (0, 0))).setRow W.heap.size IL.toArray)) := HBD.out.trans (pY.mono HBD.out.size)
    have HRY : Hid (((W.alloc (.cells ZI.toArray 41 (0, 0))).setRow W.heap.size IL.toArray).heap[w.heap.size]? = some (.cells ZI.toArray 41 (0, 0))) := (pY.block _ (row_lt HRD.out)).trans HRD.out
    have HIY : Hid (((W.alloc (.cells ZI.toArray 41 (0, 0))).setRow W.heap.size IL.toArray).heap[W.heap.size]? = some (.cells IL.toArray 41 (0, 0))) := rY
    clear pY rY HQ HBD HRD
    generalize ((W.alloc (.cells ZI.toArray 41 (0, 0))).setRow W.heap.size IL.toArray) = Y at *
    refine hK.out _ _ hSY (fun _ => ?_)
    clear hK K
    try simp only [Act.put, List.setIfInBounds_toArray, List.set_cons_zero, List.set_cons_succ]
    refine wpAnyH_done (by kernel_rfl) ?_ _
    go_wp2_with (refine wpList_load_mid rfl 41 _ rfl W.heap.size 0 rfl IL _ (rangeAt_row HIY.out) Tryz.underlying41 rfl (HII2.out _ HLN.out) ?_)
    refine Calls.mono (hM _) ?_
    rintro e Z ⟨rfl, hbZ⟩
    have HIZ : Hid _ := (hbZ.block _ (row_lt HIY.out)).trans HIY.out
    have HRZ : Hid _ := (hbZ.block _ (row_lt HRY.out)).trans HRY.out
    have HBZ2 : Hid _ := HBY.out.trans (hbZ.mono HBY.out.size)
    clear hbZ HIY HRY HBY hM
    cases hm : may WI
    · have HDN : Hid (dec n = none) := by show _ = _; rw [HMW.out, hm]; rfl
      clear hm HMW
      go_wp2_with (first
        | (refine wpList_build rfl 41 #[] rfl #[] (.agg ZI.toArray) (by simp) (HBZ.out _) ?_)
        | (refine wpList_store_row rfl 41 _ _ rfl w.heap.size ZI.toArray rfl rfl 41 ZI.toArray HRZ.out (HII.out ZI HZN.out) rfl HZ1.out ?_))
      refine bodyPost_ret (v := .tuple #[.agg ZI.toArray, .bool false]) (results2 Tryz.results24 _ _ w.heap.size 41 ZI (0, 0) _ rfl rfl (setRow_heap _ _ _ _ _ _ HRZ.out) Tryz.underlying41 rfl (HII2.out ZI HZN.out)) rfl ⟨?_, below_setRow HBZ2.out (Nat.le_refl _) _⟩
      rw [HDN.out, HZA.out]; rfl
    · have HDN : Hid (dec n = some WI) := by show _ = _; rw [HMW.out, hm]; rfl
      clear hm HMW
      go_wp2_with (first
        | (refine wpList_load_mid rfl 41 _ rfl W.heap.size 0 rfl IL _ (rangeAt_row HIZ.out) Tryz.underlying41 rfl (HII2.out _ HLN.out) ?_)
        | (refine wpList_store_row rfl 41 _ _ rfl w.heap.size IL.toArray rfl rfl 41 ZI.toArray HRZ.out (HII.out IL HLN.out) (by simp [HZN.out, HLN.out]) HL1.out ?_))
      refine bodyPost_ret (v := .tuple #[.agg IL.toArray, .bool true]) (results2 Tryz.results24 _ _ w.heap.size 41 IL (0, 0) _ rfl rfl (setRow_heap _ _ _ _ _ _ HRZ.out) Tryz.underlying41 rfl (HII2.out IL HLN.out)) rfl ⟨?_, below_setRow HBZ2.out (Nat.le_refl _) _⟩
      rw [HDN.out, HIV.out]; rfl
end Go.Proofs.YtkpjfhphohanlaaGreatDoor.JC
