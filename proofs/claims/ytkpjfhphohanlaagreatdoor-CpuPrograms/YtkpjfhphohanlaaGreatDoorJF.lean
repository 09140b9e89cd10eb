/- cpu: words of instructions (the program). -/
import Derived.Test.YtkpjfhphohanlaaGreatDoorJE
import Derived.Laws.Bits64b
set_option linter.unusedVariables false
set_option linter.unusedSimpArgs false
namespace Go.Proofs.YtkpjfhphohanlaaGreatDoor.JC
open Go.RowKit
open Go.Proofs.YtkpjfhphohanlaaGreatDoor.EC (row_lt heap_at rangeAt_below rangeAt_row ret_bool ret_i64 beq_int)

theorem results2 {fn : Func} {p u : Tmp} {ty : TypeId} {d : TypeDesc} (h : fn.results = #[.cell p ty, .tmp u]) (tmps : Array Value) (w : World) (g : Nat) (t : TypeId) (cs : List Value) (fr : Nat × Nat) (x : Value)
    (hp : tmps.getD p undef = .pointer (some ⟨g, 0, none⟩)) (hx : tmps.getD u undef = x) (hg : w.heap[g]? = some (.cells cs.toArray t fr)) (hu : Tryz.prog.underlying ty = some d) (hd : d.isRow = true) (hi : (Tryz.prog.info? ty).map (·.size) = some cs.length) :
    (results fn tmps).run Tryz.prog w = .ok (.tuple #[.agg cs.toArray, x]) w := by
  rw [results_cell_tmp h, hp, hx]
  simp [asAddr, run_loadVar_mid w g 0 ty cs d (rangeAt_row hg) hu hd hi]
theorem or64 (k : Nat) (x z : Int) (hx0 : 0 ≤ x) (hx : x < 2 ^ k) (hz : 0 ≤ z) (ht : x + z * 2 ^ k < 18446744073709551616) : bits .or .u64 x (z * 2 ^ k) = x + z * 2 ^ k := by
  obtain ⟨a, rfl⟩ : ∃ a : Nat, x = a := ⟨x.toNat, by omega⟩
  obtain ⟨c, rfl⟩ : ∃ c : Nat, z = c := ⟨z.toNat, by omega⟩
  have e1 : ((c : Int) * 2 ^ k) = ((c * 2 ^ k : Nat) : Int) := by simp
  rw [e1] at ht ⊢
  have ha : a < 2 ^ k := by exact_mod_cast hx
  rw [bits_or_u64_nat a (c * 2 ^ k) (by omega) (by omega), Nat.or_comm, Nat.mul_comm, ← Nat.two_pow_add_eq_or_of_lt ha]
  push_cast
  omega
theorem enc_val {op d a b imm V : Int} (h1 : 1 ≤ op) (h2 : op ≤ 17) (h3 : 0 ≤ d) (h4 : d < 8) (h5 : 0 ≤ a) (h6 : a < 8) (h7 : 0 ≤ b) (h8 : b < 8) (hV : V = op + d * 256 + a * 65536 + b * 16777216 + (imm % 4294967296) * 4294967296) :
    bits .or .u64 (bits .or .u64 (bits .or .u64 (bits .or .u64 op (d * 256)) (a * 65536)) (b * 16777216)) (IntKind.u64.wrap (IntKind.u64.wrap imm * 4294967296)) = V := by
  have e0 : IntKind.u64.wrap (IntKind.u64.wrap imm * 4294967296) = (imm % 4294967296) * 4294967296 := by rw [IntKind.wrap_u64, IntKind.wrap_u64]; omega
  have e1 := or64 8 op d (by omega) (by omega) h3 (by omega)
  have e2 := or64 16 (op + d * 256) a (by omega) (by omega) h5 (by omega)
  have e3 := or64 24 (op + d * 256 + a * 65536) b (by omega) (by omega) h7 (by omega)
  have e4 := or64 32 (op + d * 256 + a * 65536 + b * 16777216) (imm % 4294967296) (by omega) (by omega) (by omega) (by omega)
  simp only [show (2 : Int) ^ 8 = 256 by decide, show (2 : Int) ^ 16 = 65536 by decide, show (2 : Int) ^ 24 = 16777216 by decide, show (2 : Int) ^ 32 = 4294967296 by decide] at e1 e2 e3 e4
  rw [e0, e1, e2, e3, e4, hV]
theorem ins_info (i : Ins) : (Tryz.prog.info? 41).map (·.size) = some (iL i).length := by kernel_rfl
theorem iL_row (w : World) (i : Ins) : (w.alloc (.cells (iL i).toArray 41 (0, 0))).rangeAt w.heap.size 0 (iL i) := rangeAt_row (heap_alloc_new _ _)
set_option maxHeartbeats 2000000 in
set_option maxRecDepth 100000 in
theorem enc_bad (i : Ins) (h : iwf i) (hm : may i = false) (w : World) : Calls Tryz.prog 11 #[iV i] w fun e w' => e = .returned (.tuple #[.int .u64 0, .int .i64 2]) ∧ Below w.heap.size w w' := by
  have hM := fun W => may_any i h W
  rw [hm] at hM
  clear hm h
  obtain ⟨op, d, a, b, imm⟩ := i
  unfold iV at *
  simp only at *
  obtain ⟨W0, hW0⟩ : ∃ W0, W0 = w.alloc (.cells #[.int .i64 op, .int .i64 d, .int .i64 a, .int .i64 b, .int .i64 imm] 41 (0, 0)) := ⟨_, rfl⟩
  have HBW : Hid (Below w.heap.size w W0) := by rw [hW0]; exact (Below.refl _ _).alloc (Nat.le_refl _) _
  rw [hW0] at HBW
  clear hW0 W0
  go_enter Tryz.func11, Tryz.ntmps11
  go_wp2_with (go_at_call 26; refine Calls.mono (hM _) ?_; rintro e wq ⟨rfl, hbq⟩)
  go_ret2
  exact ⟨rfl, HBW.out.trans (hbq.mono HBW.out.size)⟩
set_option maxHeartbeats 2000000 in
set_option maxRecDepth 100000 in
theorem enc_ok (i : Ins) (h : iwf i) (hm : may i = true) (w : World) : Calls Tryz.prog 11 #[iV i] w fun e w' => e = .returned (.tuple #[.int .u64 (wrd i), .int .i64 0]) ∧ Below w.heap.size w w' := by
  have hM := fun W => may_any i h W
  rw [hm] at hM
  obtain ⟨h1, h2, h3, h4, h5, h6, h7, h8, h9, ha⟩ := may_bd hm
  have HW : Hid _ := wrd_eq hm
  generalize wrd i = V at *
  clear hm h
  obtain ⟨op, d, a, b, imm⟩ := i
  unfold iV at *
  simp only at *
  obtain ⟨W0, hW0⟩ : ∃ W0, W0 = w.alloc (.cells #[.int .i64 op, .int .i64 d, .int .i64 a, .int .i64 b, .int .i64 imm] 41 (0, 0)) := ⟨_, rfl⟩
  have HBW : Hid (Below w.heap.size w W0) := by rw [hW0]; exact (Below.refl _ _).alloc (Nat.le_refl _) _
  have HF : Hid (∀ k, W0.cell? ⟨w.heap.size, k, none⟩ = (#[.int .i64 op, .int .i64 d, .int .i64 a, .int .i64 b, .int .i64 imm] : Array Value)[k]?) := fun k => by rw [hW0]; exact fields5 _ _ _ _ _ (heap_alloc_new _ _) k
  rw [hW0] at HBW HF
  clear hW0 W0
  go_enter Tryz.func11, Tryz.ntmps11
  go_wp2_with (go_at_call 26; refine Calls.mono (hM _) ?_; rintro e wq ⟨rfl, hbq⟩; (have f0 := (hbq.cell (block_lt (HF.out 0))).trans (HF.out 0)); (have f1 := (hbq.cell (block_lt (HF.out 1))).trans (HF.out 1)); (have f2 := (hbq.cell (block_lt (HF.out 2))).trans (HF.out 2)); (have f3 := (hbq.cell (block_lt (HF.out 3))).trans (HF.out 3)); (have f4 := (hbq.cell (block_lt (HF.out 4))).trans (HF.out 4)); (have HB2 : Hid _ := HBW.out.trans (hbq.mono HBW.out.size)); clear HF HBW hbq)
  go_ret2
  refine ⟨?_, HB2.out⟩
  exact congrArg (fun x => Ending.returned (.tuple #[.int .u64 x, .int .i64 0])) (enc_val h1 h2 h3 h4 h5 h6 h7 h8 HW.out)
def insRes (o : Option Ins) : Value := match o with | some i => .tuple #[iV i, .int .i64 0] | none => .tuple #[iV ⟨0, 0, 0, 0, 0⟩, .int .i64 4]
def pb (n k : Int) : Int := n / 256 ^ k.toNat % 256
theorem part_any (k : Int) (hk : k = 0 ∨ k = 1 ∨ k = 2 ∨ k = 3) (n : Int) (h0 : 0 ≤ n) (h1 : n < 18446744073709551616) (b : Nat) (w : World) (hc : w.cell? ⟨b, 0, none⟩ = some (.int .u64 n)) : Calls Tryz.prog 27 #[.int .i64 k, .pointer (some ⟨b, 0, none⟩)] w fun e w' => e = .returned (.int .i64 (pb n k)) ∧ w = w' := by
  rcases hk with rfl | rfl | rfl | rfl
  all_goals
    go_enter Tryz.func27, Tryz.ntmps27
    go_wp2
    go_ret
    refine ⟨ret_i64 ?_, rfl⟩
    unfold pb
    simp
theorem pb_wi (n : Int) : wi n = ⟨pb n 0, pb n 1, pb n 2, pb n 3, sx (n / 4294967296)⟩ := by
  unfold wi pb; simp
theorem sx_val (n : Int) (h0 : 0 ≤ n) (h1 : n < 18446744073709551616) : IntKind.i64.wrap n / 4294967296 = sx (n / 4294967296) := by
  rw [IntKind.wrap_i64]; unfold sx; split <;> omega
theorem wi_wf (n : Int) (h0 : 0 ≤ n) (h1 : n < 18446744073709551616) : iwf (wi n) := by
  have hw : ∀ x : Int, -9223372036854775808 ≤ x → x ≤ 9223372036854775807 → (Lit.int .i64 x).wf = true := fun x h1 h2 => by
    simp [Lit.wf, IntKind.min, IntKind.max, IntKind.signed, IntKind.bits]; omega
  unfold wi sx
  constructor <;> apply hw <;> (simp only) <;> (try split) <;> omega
structure SD (b : Nat) (n : Int) (X : World) : Prop where
  c : X.cell? ⟨b, 0, none⟩ = some (.int .u64 n)
theorem SD.below {b : Nat} {n : Int} {X Y : World} (h : SD b n X) (hb : Below X.heap.size X Y) : SD b n Y := ⟨(hb.cell (block_lt h.c)).trans h.c⟩
theorem SD.alloc {b : Nat} {n : Int} {X : World} (h : SD b n X) (o : Obj) : SD b n (X.alloc o) := h.below ((Below.refl _ _).alloc (Nat.le_refl _) _)
theorem ins_zero (W : World) : (zeroValue 41).run Tryz.prog W = .ok (.agg #[.int .i64 0, .int .i64 0, .int .i64 0, .int .i64 0, .int .i64 0]) W := by kernel_rfl
set_option maxHeartbeats 4000000 in
set_option maxRecDepth 100000 in
theorem dec_any (n : Int) (h0 : 0 ≤ n) (h1 : n < 18446744073709551616) (w : World) : Calls Tryz.prog 12 #[.int .u64 n] w fun e w' => e = .returned (insRes (dec n)) ∧ Below w.heap.size w w' := by
  have hM := fun W => may_any (wi n) (wi_wf n h0 h1) W
  have HD : Hid (dec n = if may (wi n) = true then some (wi n) else none) := rfl
  have hwi := pb_wi n
  have hsx := sx_val n h0 h1
  rw [hwi] at hM HD
  clear hwi
  generalize sx (n / 4294967296) = SX at *
  generalize dec n = DN at *
  generalize may ⟨pb n 0, pb n 1, pb n 2, pb n 3, SX⟩ = MB at *
  unfold iV at hM
  simp only at hM
  obtain ⟨IA, hIA⟩ : ∃ IA : List Value, IA = [.int .i64 (pb n 0), .int .i64 (pb n 1), .int .i64 (pb n 2), .int .i64 (pb n 3), .int .i64 SX] := ⟨_, rfl⟩
  go_enter Tryz.func12, Tryz.ntmps12
  go_wp2
  have HS : Hid _ := (⟨fields5 _ #[.int .u64 n] 36 (0, 0) _ (heap_alloc_new w _) 0⟩ : SD w.heap.size n (w.alloc (.cells #[.int .u64 n] 36 (0, 0))))
  have HB0 : Hid (Below w.heap.size w (((w.alloc (.cells #[.int .u64 n] 36 (0, 0))).alloc (.cells #[.int .i64 0, .int .i64 0, .int .i64 0, .int .i64 0, .int .i64 0] 41 (0, 0))).drew)) := (((Below.refl _ _).alloc (Nat.le_refl _) _).alloc (by simp) _).drew
  have HR0 : Hid ((((w.alloc (.cells #[.int .u64 n] 36 (0, 0))).alloc (.cells #[.int .i64 0, .int .i64 0, .int .i64 0, .int .i64 0, .int .i64 0] 41 (0, 0))).drew).heap[w.heap.size + 1]? = some (.cells #[.int .i64 0, .int .i64 0, .int .i64 0, .int .i64 0, .int .i64 0] 41 (0, 0)) ∧ w.heap.size + 2 ≤ (((w.alloc (.cells #[.int .u64 n] 36 (0, 0))).alloc (.cells #[.int .i64 0, .int .i64 0, .int .i64 0, .int .i64 0, .int .i64 0] 41 (0, 0))).drew).heap.size) := ⟨heap_at _ _ _ (by simp), by simp⟩
  refine wp_region_held_drew (S := SD w.heap.size n) (by kernel_rfl) ((HS.out.alloc _).below (Below.drew (Below.refl _ _))) (fun hHeld => ?_)
  generalize ((w.alloc (.cells #[.int .u64 n] 36 (0, 0))).alloc (.cells #[.int .i64 0, .int .i64 0, .int .i64 0, .int .i64 0, .int .i64 0] 41 (0, 0))).drew = W at *
  obtain ⟨ZI, hZI⟩ : ∃ ZI : List Value, ZI = [.int .i64 0, .int .i64 0, .int .i64 0, .int .i64 0, .int .i64 0] := ⟨_, rfl⟩
  have HNX : Hid (∀ wq, Below (W.alloc (.cells #[.int .i64 (pb n 0), .int .i64 (pb n 1), .int .i64 (pb n 2), .int .i64 (pb n 3), .int .i64 SX] 41 (0, 0))).heap.size (W.alloc (.cells #[.int .i64 (pb n 0), .int .i64 (pb n 1), .int .i64 (pb n 2), .int .i64 (pb n 3), .int .i64 SX] 41 (0, 0))) wq → wq.rangeAt W.heap.size 0 IA ∧ wq.heap[w.heap.size + 1]? = some (.cells ZI.toArray 41 (0, 0)) ∧ Below w.heap.size w wq) := fun wq hb => by
    have hba : Below W.heap.size W (W.alloc (.cells #[.int .i64 (pb n 0), .int .i64 (pb n 1), .int .i64 (pb n 2), .int .i64 (pb n 3), .int .i64 SX] 41 (0, 0))) := (Below.refl _ _).alloc (Nat.le_refl _) _
    have hs := HR0.out.2
    refine ⟨?_, ?_, ?_⟩
    · rw [hIA]; exact rangeAt_below (rangeAt_row (cs := [.int .i64 (pb n 0), .int .i64 (pb n 1), .int .i64 (pb n 2), .int .i64 (pb n 3), .int .i64 SX]) (heap_alloc_new _ _)) hb
    · rw [hZI]; exact (hb.block _ (by simp; omega)).trans ((hba.block _ (by omega)).trans HR0.out.1)
    · have h3 := HB0.out.trans (hba.mono HB0.out.size)
      exact h3.trans (hb.mono h3.size)
  have HII : Hid ((Tryz.prog.info? 41).map (·.size) = some IA.length) := by show _ = _; rw [hIA]; kernel_rfl
  have HII2 : Hid ((Tryz.prog.info? 41).map (·.size) = some IA.toArray.size) := by show _ = _; rw [hIA]; kernel_rfl
  have HZI : Hid ((Tryz.prog.info? 41).map (·.size) = some ZI.toArray.size) := by show _ = _; rw [hZI]; kernel_rfl
  have HZI2 : Hid ((Tryz.prog.info? 41).map (·.size) = some ZI.length) := by show _ = _; rw [hZI]; kernel_rfl
  have HIZ : Hid (ZI.toArray.size = IA.toArray.size) := by show _ = _; rw [hZI, hIA]; rfl
  have HI1 : Hid (IA.toArray.all (·.oneCell') = true) := by show _ = _; rw [hIA]; simp [Value.oneCell']
  have HZ1 : Hid (ZI.toArray.all (·.oneCell') = true) := by show _ = _; rw [hZI]; simp [Value.oneCell']
  have HIA : Hid _ := hIA
  have HZA : Hid _ := hZI
  clear HR0 HB0 hIA hZI
  have hW := hHeld
  clear HS
  refine wpAnyH_take (i := 0) (oi := { dst := some 7, op := Go.Op.move (Go.Operand.tmp 4), type := 79, pos := _, after := #[], guard := none }) (v := .func (.func 27) #[] #[.pointer (some ⟨w.heap.size, 0, none⟩)]) rfl (by kernel_rfl) (by kernel_rfl) (by kernel_rfl) (fun _ _ _ h => h) (Or.inl ⟨by rfl, fun w' hw' => ?_⟩) hHeld ?_
  · first | (go_simp; done) | (go_simp; rfl)
  try simp only [Act.put, List.setIfInBounds_toArray, List.set_cons_zero, List.set_cons_succ]
  refine wpAnyH_take (i := 2) (oi := { dst := some 9, op := Go.Op.move (Go.Operand.tmp 4), type := 79, pos := _, after := #[], guard := none }) (v := .func (.func 27) #[] #[.pointer (some ⟨w.heap.size, 0, none⟩)]) rfl (by kernel_rfl) (by kernel_rfl) (by kernel_rfl) (fun _ _ _ h => h) (Or.inl ⟨by rfl, fun w' hw' => ?_⟩) hHeld ?_
  · first | (go_simp; done) | (go_simp; rfl)
  try simp only [Act.put, List.setIfInBounds_toArray, List.set_cons_zero, List.set_cons_succ]
  refine wpAnyH_take (i := 4) (oi := { dst := some 11, op := Go.Op.move (Go.Operand.tmp 4), type := 79, pos := _, after := #[], guard := none }) (v := .func (.func 27) #[] #[.pointer (some ⟨w.heap.size, 0, none⟩)]) rfl (by kernel_rfl) (by kernel_rfl) (by kernel_rfl) (fun _ _ _ h => h) (Or.inl ⟨by rfl, fun w' hw' => ?_⟩) hHeld ?_
  · first | (go_simp; done) | (go_simp; rfl)
  try simp only [Act.put, List.setIfInBounds_toArray, List.set_cons_zero, List.set_cons_succ]
  refine wpAnyH_take (i := 6) (oi := { dst := some 13, op := Go.Op.move (Go.Operand.tmp 4), type := 79, pos := _, after := #[], guard := none }) (v := .func (.func 27) #[] #[.pointer (some ⟨w.heap.size, 0, none⟩)]) rfl (by kernel_rfl) (by kernel_rfl) (by kernel_rfl) (fun _ _ _ h => h) (Or.inl ⟨by rfl, fun w' hw' => ?_⟩) hHeld ?_
  · first | (go_simp; done) | (go_simp; rfl)
  try simp only [Act.put, List.setIfInBounds_toArray, List.set_cons_zero, List.set_cons_succ]
  refine wpAnyH_take (i := 8) (oi := { dst := some 15, op := Go.Op.load 36 (Go.Operand.tmp 1), type := 36, pos := _, after := #[], guard := none }) (v := .int .u64 n) rfl (by kernel_rfl) (by kernel_rfl) (by kernel_rfl) (fun _ _ _ h => h) (Or.inl ⟨by rfl, fun w' hw' => ?_⟩) hHeld ?_
  · have hcc := hw'.c; first | (go_simp; done) | (go_simp; rfl)
  try simp only [Act.put, List.setIfInBounds_toArray, List.set_cons_zero, List.set_cons_succ]
  refine wpAnyH_take (i := 9) (oi := { dst := some 16, op := Go.Op.convert 36 2 (Go.Operand.tmp 15), type := 2, pos := _, after := #[{ on := 8, ground := Go.Ground.data }], guard := none }) (v := .int .i64 (IntKind.i64.wrap n)) rfl (by kernel_rfl) (by kernel_rfl) (by kernel_rfl) (fun _ _ _ h => h) (Or.inl ⟨by rfl, fun w' hw' => ?_⟩) hHeld ?_
  · first | (go_simp; done) | (go_simp; rfl)
  try simp only [Act.put, List.setIfInBounds_toArray, List.set_cons_zero, List.set_cons_succ]
  refine wpAnyH_take (i := 10) (oi := { dst := some 17, op := Go.Op.binOp Go.BinOp.shr 2 (Go.Operand.tmp 16) (Go.Operand.const (Go.Value.int Go.IntKind.u64 32)) 78, type := 2, pos := _, after := #[{ on := 9, ground := Go.Ground.data }], guard := none }) (v := .int .i64 SX) rfl (by kernel_rfl) (by kernel_rfl) (by kernel_rfl) (fun _ _ _ h => h) (Or.inl ⟨by rfl, fun w' hw' => ?_⟩) hHeld ?_
  · first | (go_simp; done) | (go_simp; rfl)
  try simp only [Act.put, List.setIfInBounds_toArray, List.set_cons_zero, List.set_cons_succ]
  refine wpAnyH_ready (rs := [1, 12]) (by kernel_rfl) (by simp) ?_
  refine AllReadyH.cons (o := { dst := some 8, op := Go.Op.call { callee := Go.Callee.value (Go.Operand.tmp 7), args := #[Go.Operand.const (Go.Value.int Go.IntKind.i64 0)], argTypes := #[3] }, type := 3, pos := _, after := #[{ on := 0, ground := Go.Ground.data }], guard := none }) rfl (fun K hK => ?_) (AllReadyH.cons (o := { dst := some 5, op := Go.Op.alloc 41, type := 0, pos := _, after := #[], guard := none }) rfl (fun K hK => ?_) AllReadyH.nil)
  all_goals rw [if_pos (by rfl)]
  · skip
    go_wp2_with fail
    refine Calls.mono (part_any 0 (by decide) n h0 h1 w.heap.size _ hHeld.c) ?_
    rintro e Wq ⟨rfl, rfl⟩
    refine hK.out _ _ hHeld (fun _ => ?_)
    clear hK K
    try simp only [Act.put, List.setIfInBounds_toArray, List.set_cons_zero, List.set_cons_succ]
    refine wpAnyH_ready (rs := [3, 12]) (by kernel_rfl) (by simp) ?_
    refine AllReadyH.cons (o := { dst := some 10, op := Go.Op.call { callee := Go.Callee.value (Go.Operand.tmp 9), args := #[Go.Operand.const (Go.Value.int Go.IntKind.i64 1)], argTypes := #[3] }, type := 3, pos := _, after := #[{ on := 2, ground := Go.Ground.data }, { on := 1, ground := Go.Ground.chain }], guard := none }) rfl (fun K hK => ?_) (AllReadyH.cons (o := { dst := some 5, op := Go.Op.alloc 41, type := 0, pos := _, after := #[], guard := none }) rfl (fun K hK => ?_) AllReadyH.nil)
    all_goals rw [if_pos (by rfl)]
    · skip
      go_wp2_with fail
      refine Calls.mono (part_any 1 (by decide) n h0 h1 w.heap.size _ hHeld.c) ?_
      rintro e Wq ⟨rfl, rfl⟩
      refine hK.out _ _ hHeld (fun _ => ?_)
      clear hK K
      try simp only [Act.put, List.setIfInBounds_toArray, List.set_cons_zero, List.set_cons_succ]
      refine wpAnyH_ready (rs := [5, 12]) (by kernel_rfl) (by simp) ?_
      refine AllReadyH.cons (o := { dst := some 12, op := Go.Op.call { callee := Go.Callee.value (Go.Operand.tmp 11), args := #[Go.Operand.const (Go.Value.int Go.IntKind.i64 2)], argTypes := #[3] }, type := 3, pos := _, after := #[{ on := 4, ground := Go.Ground.data }, { on := 3, ground := Go.Ground.chain }], guard := none }) rfl (fun K hK => ?_) (AllReadyH.cons (o := { dst := some 5, op := Go.Op.alloc 41, type := 0, pos := _, after := #[], guard := none }) rfl (fun K hK => ?_) AllReadyH.nil)
      all_goals rw [if_pos (by rfl)]
      · skip
        go_wp2_with fail
        refine Calls.mono (part_any 2 (by decide) n h0 h1 w.heap.size _ hHeld.c) ?_
        rintro e Wq ⟨rfl, rfl⟩
        refine hK.out _ _ hHeld (fun _ => ?_)
        clear hK K
        try simp only [Act.put, List.setIfInBounds_toArray, List.set_cons_zero, List.set_cons_succ]
        refine wpAnyH_ready (rs := [7, 12]) (by kernel_rfl) (by simp) ?_
        refine AllReadyH.cons (o := { dst := some 14, op := Go.Op.call { callee := Go.Callee.value (Go.Operand.tmp 13), args := #[Go.Operand.const (Go.Value.int Go.IntKind.i64 3)], argTypes := #[3] }, type := 3, pos := _, after := #[{ on := 6, ground := Go.Ground.data }, { on := 5, ground := Go.Ground.chain }], guard := none }) rfl (fun K hK => ?_) (AllReadyH.cons (o := { dst := some 5, op := Go.Op.alloc 41, type := 0, pos := _, after := #[], guard := none }) rfl (fun K hK => ?_) AllReadyH.nil)
        all_goals rw [if_pos (by rfl)]
        · skip
          go_wp2_with fail
          refine Calls.mono (part_any 3 (by decide) n h0 h1 w.heap.size _ hHeld.c) ?_
          rintro e Wq ⟨rfl, rfl⟩
          refine hK.out _ _ hHeld (fun _ => ?_)
          clear hK K
          try simp only [Act.put, List.setIfInBounds_toArray, List.set_cons_zero, List.set_cons_succ]
          refine wpAnyH_take (i := 11) (oi := { dst := some 18, op := Go.Op.build 41 #[(0, Go.Operand.tmp 8), (1, Go.Operand.tmp 10), (2, Go.Operand.tmp 12), (3, Go.Operand.tmp 14), (4, Go.Operand.tmp 17)], type := 41, pos := _, after := #[{ on := 1, ground := Go.Ground.data }, { on := 3, ground := Go.Ground.data }, { on := 5, ground := Go.Ground.data }, { on := 7, ground := Go.Ground.data }, { on := 10, ground := Go.Ground.data }], guard := none }) (v := .agg #[.int .i64 (pb n 0), .int .i64 (pb n 1), .int .i64 (pb n 2), .int .i64 (pb n 3), .int .i64 SX]) rfl (by kernel_rfl) (by kernel_rfl) (by kernel_rfl) (fun _ _ _ h => h) (Or.inl ⟨by rfl, fun w' hw' => ?_⟩) hHeld ?_
          · first | (go_simp; done) | (go_simp; rfl)
          try simp only [Act.put, List.setIfInBounds_toArray, List.set_cons_zero, List.set_cons_succ]
          refine wpAnyH_ready (rs := [12]) (by kernel_rfl) (by simp) ?_
          refine AllReadyH.cons (o := { dst := some 5, op := Go.Op.alloc 41, type := 0, pos := _, after := #[], guard := none }) rfl (fun K hK => ?_) AllReadyH.nil
          rw [if_pos (by rfl)]
          go_wp2
          refine hK.out _ _ (hHeld.alloc _) (fun _ => ?_)
          clear hK K
          try simp only [Act.put, List.setIfInBounds_toArray, List.set_cons_zero, List.set_cons_succ]
          have hHeld := hHeld.alloc (.cells #[.int .i64 0, .int .i64 0, .int .i64 0, .int .i64 0, .int .i64 0] 41 (0, 0))
          refine wpAnyH_ready (rs := [13]) (by kernel_rfl) (by simp) ?_
          refine AllReadyH.cons (o := { dst := none, op := Go.Op.store 41 (Go.Operand.tmp 5) (Go.Operand.tmp 18), type := 0, pos := _, after := #[{ on := 12, ground := Go.Ground.data }, { on := 11, ground := Go.Ground.data }, { on := 7, ground := Go.Ground.chain }, { on := 0, ground := Go.Ground.phase }, { on := 1, ground := Go.Ground.phase }, { on := 2, ground := Go.Ground.phase }, { on := 3, ground := Go.Ground.phase }, { on := 4, ground := Go.Ground.phase }, { on := 5, ground := Go.Ground.phase }, { on := 6, ground := Go.Ground.phase }, { on := 7, ground := Go.Ground.phase }, { on := 8, ground := Go.Ground.phase }, { on := 9, ground := Go.Ground.phase }, { on := 10, ground := Go.Ground.phase }, { on := 11, ground := Go.Ground.phase }, { on := 12, ground := Go.Ground.phase }], guard := none }) rfl (fun K hK => ?_) AllReadyH.nil
          rw [if_pos (by rfl)]
          go_wp2
          refine hK.out _ _ (hW.alloc _) (fun _ => ?_)
          clear hK K
          try simp only [Act.put, List.setIfInBounds_toArray, List.set_cons_zero, List.set_cons_succ]
          refine wpAnyH_done (by kernel_rfl) ?_ _
          clear hHeld hW
          go_wp2_with fail
          refine Calls.mono (hM _) ?_
          rintro e wq ⟨rfl, hbq⟩
          obtain ⟨hIR, hRR, hBQ⟩ := HNX.out wq hbq
          have HIR : Hid (wq.rangeAt W.heap.size 0 IA) := hIR
          have HRR : Hid (wq.heap[w.heap.size + 1]? = some (.cells ZI.toArray 41 (0, 0))) := hRR
          have HBQ : Hid (Below w.heap.size w wq) := hBQ
          clear hIR hRR hBQ hbq HNX hM
          cases MB
          · have HD2 : Hid (DN = none) := HD.out
            clear HD
            go_wp2_with (first
              | (refine wpList_store_row rfl 41 _ _ rfl (w.heap.size + 1) ZI.toArray rfl (by rw [HZA.out]; rfl) 41 ZI.toArray HRR.out HZI.out rfl HZ1.out ?_))
            refine bodyPost_ret (v := .tuple #[.agg ZI.toArray, .int .i64 4]) (results2 Tryz.results12 _ _ (w.heap.size + 1) 41 ZI (0, 0) _ rfl rfl (setRow_heap _ _ _ _ _ _ HRR.out) Tryz.underlying41 rfl HZI2.out) rfl ⟨?_, below_setRow HBQ.out (by omega) _⟩
            rw [HD2.out, HZA.out]; rfl
          · have HD2 : Hid (DN = some ⟨pb n 0, pb n 1, pb n 2, pb n 3, SX⟩) := HD.out
            clear HD
            go_wp2_with (first
              | (refine wpList_load_mid rfl 41 _ rfl W.heap.size 0 rfl IA _ HIR.out Tryz.underlying41 rfl HII.out ?_)
              | (refine wpList_store_row rfl 41 _ _ rfl (w.heap.size + 1) IA.toArray rfl rfl 41 ZI.toArray HRR.out HII2.out HIZ.out HI1.out ?_))
            refine bodyPost_ret (v := .tuple #[.agg IA.toArray, .int .i64 0]) (results2 Tryz.results12 _ _ (w.heap.size + 1) 41 IA (0, 0) _ rfl rfl (setRow_heap _ _ _ _ _ _ HRR.out) Tryz.underlying41 rfl HII.out) rfl ⟨?_, below_setRow HBQ.out (by omega) _⟩
            rw [HD2.out, HIA.out]; rfl
        · skip
          go_wp2
          refine hK.out _ _ (hHeld.alloc _) (fun _ => ?_)
          clear hK K
          try simp only [Act.put, List.setIfInBounds_toArray, List.set_cons_zero, List.set_cons_succ]
          have hHeld := hHeld.alloc (.cells #[.int .i64 0, .int .i64 0, .int .i64 0, .int .i64 0, .int .i64 0] 41 (0, 0))
          refine wpAnyH_ready (rs := [7]) (by kernel_rfl) (by simp) ?_
          refine AllReadyH.cons (o := { dst := some 14, op := Go.Op.call { callee := Go.Callee.value (Go.Operand.tmp 13), args := #[Go.Operand.const (Go.Value.int Go.IntKind.i64 3)], argTypes := #[3] }, type := 3, pos := _, after := #[{ on := 6, ground := Go.Ground.data }, { on := 5, ground := Go.Ground.chain }], guard := none }) rfl (fun K hK => ?_) AllReadyH.nil
          rw [if_pos (by rfl)]
          go_wp2_with fail
          refine Calls.mono (part_any 3 (by decide) n h0 h1 w.heap.size _ hHeld.c) ?_
          rintro e Wq ⟨rfl, rfl⟩
          refine hK.out _ _ hHeld (fun _ => ?_)
          clear hK K
          try simp only [Act.put, List.setIfInBounds_toArray, List.set_cons_zero, List.set_cons_succ]
          refine wpAnyH_take (i := 11) (oi := { dst := some 18, op := Go.Op.build 41 #[(0, Go.Operand.tmp 8), (1, Go.Operand.tmp 10), (2, Go.Operand.tmp 12), (3, Go.Operand.tmp 14), (4, Go.Operand.tmp 17)], type := 41, pos := _, after := #[{ on := 1, ground := Go.Ground.data }, { on := 3, ground := Go.Ground.data }, { on := 5, ground := Go.Ground.data }, { on := 7, ground := Go.Ground.data }, { on := 10, ground := Go.Ground.data }], guard := none }) (v := .agg #[.int .i64 (pb n 0), .int .i64 (pb n 1), .int .i64 (pb n 2), .int .i64 (pb n 3), .int .i64 SX]) rfl (by kernel_rfl) (by kernel_rfl) (by kernel_rfl) (fun _ _ _ h => h) (Or.inl ⟨by rfl, fun w' hw' => ?_⟩) hHeld ?_
          · first | (go_simp; done) | (go_simp; rfl)
          try simp only [Act.put, List.setIfInBounds_toArray, List.set_cons_zero, List.set_cons_succ]
          refine wpAnyH_ready (rs := [13]) (by kernel_rfl) (by simp) ?_
          refine AllReadyH.cons (o := { dst := none, op := Go.Op.store 41 (Go.Operand.tmp 5) (Go.Operand.tmp 18), type := 0, pos := _, after := #[{ on := 12, ground := Go.Ground.data }, { on := 11, ground := Go.Ground.data }, { on := 7, ground := Go.Ground.chain }, { on := 0, ground := Go.Ground.phase }, { on := 1, ground := Go.Ground.phase }, { on := 2, ground := Go.Ground.phase }, { on := 3, ground := Go.Ground.phase }, { on := 4, ground := Go.Ground.phase }, { on := 5, ground := Go.Ground.phase }, { on := 6, ground := Go.Ground.phase }, { on := 7, ground := Go.Ground.phase }, { on := 8, ground := Go.Ground.phase }, { on := 9, ground := Go.Ground.phase }, { on := 10, ground := Go.Ground.phase }, { on := 11, ground := Go.Ground.phase }, { on := 12, ground := Go.Ground.phase }], guard := none }) rfl (fun K hK => ?_) AllReadyH.nil
          rw [if_pos (by rfl)]
          go_wp2
          refine hK.out _ _ (hW.alloc _) (fun _ => ?_)
          clear hK K
          try simp only [Act.put, List.setIfInBounds_toArray, List.set_cons_zero, List.set_cons_succ]
          refine wpAnyH_done (by kernel_rfl) ?_ _
          clear hHeld hW
          go_wp2_with fail
          refine Calls.mono (hM _) ?_
          rintro e wq ⟨rfl, hbq⟩
          obtain ⟨hIR, hRR, hBQ⟩ := HNX.out wq hbq
          have HIR : Hid (wq.rangeAt W.heap.size 0 IA) := hIR
          have HRR : Hid (wq.heap[w.heap.size + 1]? = some (.cells ZI.toArray 41 (0, 0))) := hRR
          have HBQ : Hid (Below w.heap.size w wq) := hBQ
          clear hIR hRR hBQ hbq HNX hM
          cases MB
          · have HD2 : Hid (DN = none) := HD.out
            clear HD
            go_wp2_with (first
              | (refine wpList_store_row rfl 41 _ _ rfl (w.heap.size + 1) ZI.toArray rfl (by rw [HZA.out]; rfl) 41 ZI.toArray HRR.out HZI.out rfl HZ1.out ?_))
            refine bodyPost_ret (v := .tuple #[.agg ZI.toArray, .int .i64 4]) (results2 Tryz.results12 _ _ (w.heap.size + 1) 41 ZI (0, 0) _ rfl rfl (setRow_heap _ _ _ _ _ _ HRR.out) Tryz.underlying41 rfl HZI2.out) rfl ⟨?_, below_setRow HBQ.out (by omega) _⟩
            rw [HD2.out, HZA.out]; rfl
          · have HD2 : Hid (DN = some ⟨pb n 0, pb n 1, pb n 2, pb n 3, SX⟩) := HD.out
            clear HD
            go_wp2_with (first
              | (refine wpList_load_mid rfl 41 _ rfl W.heap.size 0 rfl IA _ HIR.out Tryz.underlying41 rfl HII.out ?_)
              | (refine wpList_store_row rfl 41 _ _ rfl (w.heap.size + 1) IA.toArray rfl rfl 41 ZI.toArray HRR.out HII2.out HIZ.out HI1.out ?_))
            refine bodyPost_ret (v := .tuple #[.agg IA.toArray, .int .i64 0]) (results2 Tryz.results12 _ _ (w.heap.size + 1) 41 IA (0, 0) _ rfl rfl (setRow_heap _ _ _ _ _ _ HRR.out) Tryz.underlying41 rfl HII.out) rfl ⟨?_, below_setRow HBQ.out (by omega) _⟩
            rw [HD2.out, HIA.out]; rfl
      · skip
        go_wp2
        refine hK.out _ _ (hHeld.alloc _) (fun _ => ?_)
        clear hK K
        try simp only [Act.put, List.setIfInBounds_toArray, List.set_cons_zero, List.set_cons_succ]
        have hHeld := hHeld.alloc (.cells #[.int .i64 0, .int .i64 0, .int .i64 0, .int .i64 0, .int .i64 0] 41 (0, 0))
        refine wpAnyH_ready (rs := [5]) (by kernel_rfl) (by simp) ?_
        refine AllReadyH.cons (o := { dst := some 12, op := Go.Op.call { callee := Go.Callee.value (Go.Operand.tmp 11), args := #[Go.Operand.const (Go.Value.int Go.IntKind.i64 2)], argTypes := #[3] }, type := 3, pos := _, after := #[{ on := 4, ground := Go.Ground.data }, { on := 3, ground := Go.Ground.chain }], guard := none }) rfl (fun K hK => ?_) AllReadyH.nil
        rw [if_pos (by rfl)]
        go_wp2_with fail
        refine Calls.mono (part_any 2 (by decide) n h0 h1 w.heap.size _ hHeld.c) ?_
        rintro e Wq ⟨rfl, rfl⟩
        refine hK.out _ _ hHeld (fun _ => ?_)
        clear hK K
        try simp only [Act.put, List.setIfInBounds_toArray, List.set_cons_zero, List.set_cons_succ]
        refine wpAnyH_ready (rs := [7]) (by kernel_rfl) (by simp) ?_
        refine AllReadyH.cons (o := { dst := some 14, op := Go.Op.call { callee := Go.Callee.value (Go.Operand.tmp 13), args := #[Go.Operand.const (Go.Value.int Go.IntKind.i64 3)], argTypes := #[3] }, type := 3, pos := _, after := #[{ on := 6, ground := Go.Ground.data }, { on := 5, ground := Go.Ground.chain }], guard := none }) rfl (fun K hK => ?_) AllReadyH.nil
        rw [if_pos (by rfl)]
        go_wp2_with fail
        refine Calls.mono (part_any 3 (by decide) n h0 h1 w.heap.size _ hHeld.c) ?_
        rintro e Wq ⟨rfl, rfl⟩
        refine hK.out _ _ hHeld (fun _ => ?_)
        clear hK K
        try simp only [Act.put, List.setIfInBounds_toArray, List.set_cons_zero, List.set_cons_succ]
        refine wpAnyH_take (i := 11) (oi := { dst := some 18, op := Go.Op.build 41 #[(0, Go.Operand.tmp 8), (1, Go.Operand.tmp 10), (2, Go.Operand.tmp 12), (3, Go.Operand.tmp 14), (4, Go.Operand.tmp 17)], type := 41, pos := _, after := #[{ on := 1, ground := Go.Ground.data }, { on := 3, ground := Go.Ground.data }, { on := 5, ground := Go.Ground.data }, { on := 7, ground := Go.Ground.data }, { on := 10, ground := Go.Ground.data }], guard := none }) (v := .agg #[.int .i64 (pb n 0), .int .i64 (pb n 1), .int .i64 (pb n 2), .int .i64 (pb n 3), .int .i64 SX]) rfl (by kernel_rfl) (by kernel_rfl) (by kernel_rfl) (fun _ _ _ h => h) (Or.inl ⟨by rfl, fun w' hw' => ?_⟩) hHeld ?_
        · first | (go_simp; done) | (go_simp; rfl)
        try simp only [Act.put, List.setIfInBounds_toArray, List.set_cons_zero, List.set_cons_succ]
        refine wpAnyH_ready (rs := [13]) (by kernel_rfl) (by simp) ?_
        refine AllReadyH.cons (o := { dst := none, op := Go.Op.store 41 (Go.Operand.tmp 5) (Go.Operand.tmp 18), type := 0, pos := _, after := #[{ on := 12, ground := Go.Ground.data }, { on := 11, ground := Go.Ground.data }, { on := 7, ground := Go.Ground.chain }, { on := 0, ground := Go.Ground.phase }, { on := 1, ground := Go.Ground.phase }, { on := 2, ground := Go.Ground.phase }, { on := 3, ground := Go.Ground.phase }, { on := 4, ground := Go.Ground.phase }, { on := 5, ground := Go.Ground.phase }, { on := 6, ground := Go.Ground.phase }, { on := 7, ground := Go.Ground.phase }, { on := 8, ground := Go.Ground.phase }, { on := 9, ground := Go.Ground.phase }, { on := 10, ground := Go.Ground.phase }, { on := 11, ground := Go.Ground.phase }, { on := 12, ground := Go.Ground.phase }], guard := none }) rfl (fun K hK => ?_) AllReadyH.nil
        rw [if_pos (by rfl)]
        go_wp2
        refine hK.out _ _ (hW.alloc _) (fun _ => ?_)
        clear hK K
        try simp only [Act.put, List.setIfInBounds_toArray, List.set_cons_zero, List.set_cons_succ]
        refine wpAnyH_done (by kernel_rfl) ?_ _
        clear hHeld hW
        go_wp2_with fail
        refine Calls.mono (hM _) ?_
        rintro e wq ⟨rfl, hbq⟩
        obtain ⟨hIR, hRR, hBQ⟩ := HNX.out wq hbq
        have HIR : Hid (wq.rangeAt W.heap.size 0 IA) := hIR
        have HRR : Hid (wq.heap[w.heap.size + 1]? = some (.cells ZI.toArray 41 (0, 0))) := hRR
        have HBQ : Hid (Below w.heap.size w wq) := hBQ
        clear hIR hRR hBQ hbq HNX hM
        cases MB
        · have HD2 : Hid (DN = none) := HD.out
          clear HD
          go_wp2_with (first
            | (refine wpList_store_row rfl 41 _ _ rfl (w.heap.size + 1) ZI.toArray rfl (by rw [HZA.out]; rfl) 41 ZI.toArray HRR.out HZI.out rfl HZ1.out ?_))
          refine bodyPost_ret (v := .tuple #[.agg ZI.toArray, .int .i64 4]) (results2 Tryz.results12 _ _ (w.heap.size + 1) 41 ZI (0, 0) _ rfl rfl (setRow_heap _ _ _ _ _ _ HRR.out) Tryz.underlying41 rfl HZI2.out) rfl ⟨?_, below_setRow HBQ.out (by omega) _⟩
          rw [HD2.out, HZA.out]; rfl
        · have HD2 : Hid (DN = some ⟨pb n 0, pb n 1, pb n 2, pb n 3, SX⟩) := HD.out
          clear HD
          go_wp2_with (first
            | (refine wpList_load_mid rfl 41 _ rfl W.heap.size 0 rfl IA _ HIR.out Tryz.underlying41 rfl HII.out ?_)
            | (refine wpList_store_row rfl 41 _ _ rfl (w.heap.size + 1) IA.toArray rfl rfl 41 ZI.toArray HRR.out HII2.out HIZ.out HI1.out ?_))
          refine bodyPost_ret (v := .tuple #[.agg IA.toArray, .int .i64 0]) (results2 Tryz.results12 _ _ (w.heap.size + 1) 41 IA (0, 0) _ rfl rfl (setRow_heap _ _ _ _ _ _ HRR.out) Tryz.underlying41 rfl HII.out) rfl ⟨?_, below_setRow HBQ.out (by omega) _⟩
          rw [HD2.out, HIA.out]; rfl
    · skip
      go_wp2
      refine hK.out _ _ (hHeld.alloc _) (fun _ => ?_)
      clear hK K
      try simp only [Act.put, List.setIfInBounds_toArray, List.set_cons_zero, List.set_cons_succ]
      have hHeld := hHeld.alloc (.cells #[.int .i64 0, .int .i64 0, .int .i64 0, .int .i64 0, .int .i64 0] 41 (0, 0))
      refine wpAnyH_ready (rs := [3]) (by kernel_rfl) (by simp) ?_
      refine AllReadyH.cons (o := { dst := some 10, op := Go.Op.call { callee := Go.Callee.value (Go.Operand.tmp 9), args := #[Go.Operand.const (Go.Value.int Go.IntKind.i64 1)], argTypes := #[3] }, type := 3, pos := _, after := #[{ on := 2, ground := Go.Ground.data }, { on := 1, ground := Go.Ground.chain }], guard := none }) rfl (fun K hK => ?_) AllReadyH.nil
      rw [if_pos (by rfl)]
      go_wp2_with fail
      refine Calls.mono (part_any 1 (by decide) n h0 h1 w.heap.size _ hHeld.c) ?_
      rintro e Wq ⟨rfl, rfl⟩
      refine hK.out _ _ hHeld (fun _ => ?_)
      clear hK K
      try simp only [Act.put, List.setIfInBounds_toArray, List.set_cons_zero, List.set_cons_succ]
      refine wpAnyH_ready (rs := [5]) (by kernel_rfl) (by simp) ?_
      refine AllReadyH.cons (o := { dst := some 12, op := Go.Op.call { callee := Go.Callee.value (Go.Operand.tmp 11), args := #[Go.Operand.const (Go.Value.int Go.IntKind.i64 2)], argTypes := #[3] }, type := 3, pos := _, after := #[{ on := 4, ground := Go.Ground.data }, { on := 3, ground := Go.Ground.chain }], guard := none }) rfl (fun K hK => ?_) AllReadyH.nil
      rw [if_pos (by rfl)]
      go_wp2_with fail
      refine Calls.mono (part_any 2 (by decide) n h0 h1 w.heap.size _ hHeld.c) ?_
      rintro e Wq ⟨rfl, rfl⟩
      refine hK.out _ _ hHeld (fun _ => ?_)
      clear hK K
      try simp only [Act.put, List.setIfInBounds_toArray, List.set_cons_zero, List.set_cons_succ]
      refine wpAnyH_ready (rs := [7]) (by kernel_rfl) (by simp) ?_
      refine AllReadyH.cons (o := { dst := some 14, op := Go.Op.call { callee := Go.Callee.value (Go.Operand.tmp 13), args := #[Go.Operand.const (Go.Value.int Go.IntKind.i64 3)], argTypes := #[3] }, type := 3, pos := _, after := #[{ on := 6, ground := Go.Ground.data }, { on := 5, ground := Go.Ground.chain }], guard := none }) rfl (fun K hK => ?_) AllReadyH.nil
      rw [if_pos (by rfl)]
      go_wp2_with fail
      refine Calls.mono (part_any 3 (by decide) n h0 h1 w.heap.size _ hHeld.c) ?_
      rintro e Wq ⟨rfl, rfl⟩
      refine hK.out _ _ hHeld (fun _ => ?_)
      clear hK K
      try simp only [Act.put, List.setIfInBounds_toArray, List.set_cons_zero, List.set_cons_succ]
      refine wpAnyH_take (i := 11) (oi := { dst := some 18, op := Go.Op.build 41 #[(0, Go.Operand.tmp 8), (1, Go.Operand.tmp 10), (2, Go.Operand.tmp 12), (3, Go.Operand.tmp 14), (4, Go.Operand.tmp 17)], type := 41, pos := _, after := #[{ on := 1, ground := Go.Ground.data }, { on := 3, ground := Go.Ground.data }, { on := 5, ground := Go.Ground.data }, { on := 7, ground := Go.Ground.data }, { on := 10, ground := Go.Ground.data }], guard := none }) (v := .agg #[.int .i64 (pb n 0), .int .i64 (pb n 1), .int .i64 (pb n 2), .int .i64 (pb n 3), .int .i64 SX]) rfl (by kernel_rfl) (by kernel_rfl) (by kernel_rfl) (fun _ _ _ h => h) (Or.inl ⟨by rfl, fun w' hw' => ?_⟩) hHeld ?_
      · first | (go_simp; done) | (go_simp; rfl)
      try simp only [Act.put, List.setIfInBounds_toArray, List.set_cons_zero, List.set_cons_succ]
      refine wpAnyH_ready (rs := [13]) (by kernel_rfl) (by simp) ?_
      refine AllReadyH.cons (o := { dst := none, op := Go.Op.store 41 (Go.Operand.tmp 5) (Go.Operand.tmp 18), type := 0, pos := _, after := #[{ on := 12, ground := Go.Ground.data }, { on := 11, ground := Go.Ground.data }, { on := 7, ground := Go.Ground.chain }, { on := 0, ground := Go.Ground.phase }, { on := 1, ground := Go.Ground.phase }, { on := 2, ground := Go.Ground.phase }, { on := 3, ground := Go.Ground.phase }, { on := 4, ground := Go.Ground.phase }, { on := 5, ground := Go.Ground.phase }, { on := 6, ground := Go.Ground.phase }, { on := 7, ground := Go.Ground.phase }, { on := 8, ground := Go.Ground.phase }, { on := 9, ground := Go.Ground.phase }, { on := 10, ground := Go.Ground.phase }, { on := 11, ground := Go.Ground.phase }, { on := 12, ground := Go.Ground.phase }], guard := none }) rfl (fun K hK => ?_) AllReadyH.nil
      rw [if_pos (by rfl)]
      go_wp2
      refine hK.out _ _ (hW.alloc _) (fun _ => ?_)
      clear hK K
      try simp only [Act.put, List.setIfInBounds_toArray, List.set_cons_zero, List.set_cons_succ]
      refine wpAnyH_done (by kernel_rfl) ?_ _
      clear hHeld hW
      go_wp2_with fail
      refine Calls.mono (hM _) ?_
      rintro e wq ⟨rfl, hbq⟩
      obtain ⟨hIR, hRR, hBQ⟩ := HNX.out wq hbq
      have HIR : Hid (wq.rangeAt W.heap.size 0 IA) := hIR
      have HRR : Hid (wq.heap[w.heap.size + 1]? = some (.cells ZI.toArray 41 (0, 0))) := hRR
      have HBQ : Hid (Below w.heap.size w wq) := hBQ
      clear hIR hRR hBQ hbq HNX hM
      cases MB
      · have HD2 : Hid (DN = none) := HD.out
        clear HD
        go_wp2_with (first
          | (refine wpList_store_row rfl 41 _ _ rfl (w.heap.size + 1) ZI.toArray rfl (by rw [HZA.out]; rfl) 41 ZI.toArray HRR.out HZI.out rfl HZ1.out ?_))
        refine bodyPost_ret (v := .tuple #[.agg ZI.toArray, .int .i64 4]) (results2 Tryz.results12 _ _ (w.heap.size + 1) 41 ZI (0, 0) _ rfl rfl (setRow_heap _ _ _ _ _ _ HRR.out) Tryz.underlying41 rfl HZI2.out) rfl ⟨?_, below_setRow HBQ.out (by omega) _⟩
        rw [HD2.out, HZA.out]; rfl
      · have HD2 : Hid (DN = some ⟨pb n 0, pb n 1, pb n 2, pb n 3, SX⟩) := HD.out
        clear HD
        go_wp2_with (first
          | (refine wpList_load_mid rfl 41 _ rfl W.heap.size 0 rfl IA _ HIR.out Tryz.underlying41 rfl HII.out ?_)
          | (refine wpList_store_row rfl 41 _ _ rfl (w.heap.size + 1) IA.toArray rfl rfl 41 ZI.toArray HRR.out HII2.out HIZ.out HI1.out ?_))
        refine bodyPost_ret (v := .tuple #[.agg IA.toArray, .int .i64 0]) (results2 Tryz.results12 _ _ (w.heap.size + 1) 41 IA (0, 0) _ rfl rfl (setRow_heap _ _ _ _ _ _ HRR.out) Tryz.underlying41 rfl HII.out) rfl ⟨?_, below_setRow HBQ.out (by omega) _⟩
        rw [HD2.out, HIA.out]; rfl
  · skip
    go_wp2
    refine hK.out _ _ (hHeld.alloc _) (fun _ => ?_)
    clear hK K
    try simp only [Act.put, List.setIfInBounds_toArray, List.set_cons_zero, List.set_cons_succ]
    have hHeld := hHeld.alloc (.cells #[.int .i64 0, .int .i64 0, .int .i64 0, .int .i64 0, .int .i64 0] 41 (0, 0))
    refine wpAnyH_ready (rs := [1]) (by kernel_rfl) (by simp) ?_
    refine AllReadyH.cons (o := { dst := some 8, op := Go.Op.call { callee := Go.Callee.value (Go.Operand.tmp 7), args := #[Go.Operand.const (Go.Value.int Go.IntKind.i64 0)], argTypes := #[3] }, type := 3, pos := _, after := #[{ on := 0, ground := Go.Ground.data }], guard := none }) rfl (fun K hK => ?_) AllReadyH.nil
    rw [if_pos (by rfl)]
    go_wp2_with fail
    refine Calls.mono (part_any 0 (by decide) n h0 h1 w.heap.size _ hHeld.c) ?_
    rintro e Wq ⟨rfl, rfl⟩
    refine hK.out _ _ hHeld (fun _ => ?_)
    clear hK K
    try simp only [Act.put, List.setIfInBounds_toArray, List.set_cons_zero, List.set_cons_succ]
    refine wpAnyH_ready (rs := [3]) (by kernel_rfl) (by simp) ?_
    refine AllReadyH.cons (o := { dst := some 10, op := Go.Op.call { callee := Go.Callee.value (Go.Operand.tmp 9), args := #[Go.Operand.const (Go.Value.int Go.IntKind.i64 1)], argTypes := #[3] }, type := 3, pos := _, after := #[{ on := 2, ground := Go.Ground.data }, { on := 1, ground := Go.Ground.chain }], guard := none }) rfl (fun K hK => ?_) AllReadyH.nil
    rw [if_pos (by rfl)]
    go_wp2_with fail
    refine Calls.mono (part_any 1 (by decide) n h0 h1 w.heap.size _ hHeld.c) ?_
    rintro e Wq ⟨rfl, rfl⟩
    refine hK.out _ _ hHeld (fun _ => ?_)
    clear hK K
    try simp only [Act.put, List.setIfInBounds_toArray, List.set_cons_zero, List.set_cons_succ]
    refine wpAnyH_ready (rs := [5]) (by kernel_rfl) (by simp) ?_
    refine AllReadyH.cons (o := { dst := some 12, op := Go.Op.call { callee := Go.Callee.value (Go.Operand.tmp 11), args := #[Go.Operand.const (Go.Value.int Go.IntKind.i64 2)], argTypes := #[3] }, type := 3, pos := _, after := #[{ on := 4, ground := Go.Ground.data }, { on := 3, ground := Go.Ground.chain }], guard := none }) rfl (fun K hK => ?_) AllReadyH.nil
    rw [if_pos (by rfl)]
    go_wp2_with fail
    refine Calls.mono (part_any 2 (by decide) n h0 h1 w.heap.size _ hHeld.c) ?_
    rintro e Wq ⟨rfl, rfl⟩
    refine hK.out _ _ hHeld (fun _ => ?_)
    clear hK K
    try simp only [Act.put, List.setIfInBounds_toArray, List.set_cons_zero, List.set_cons_succ]
    refine wpAnyH_ready (rs := [7]) (by kernel_rfl) (by simp) ?_
    refine AllReadyH.cons (o := { dst := some 14, op := Go.Op.call { callee := Go.Callee.value (Go.Operand.tmp 13), args := #[Go.Operand.const (Go.Value.int Go.IntKind.i64 3)], argTypes := #[3] }, type := 3, pos := _, after := #[{ on := 6, ground := Go.Ground.data }, { on := 5, ground := Go.Ground.chain }], guard := none }) rfl (fun K hK => ?_) AllReadyH.nil
    rw [if_pos (by rfl)]
    go_wp2_with fail
    refine Calls.mono (part_any 3 (by decide) n h0 h1 w.heap.size _ hHeld.c) ?_
    rintro e Wq ⟨rfl, rfl⟩
    refine hK.out _ _ hHeld (fun _ => ?_)
    clear hK K
    try simp only [Act.put, List.setIfInBounds_toArray, List.set_cons_zero, List.set_cons_succ]
    refine wpAnyH_take (i := 11) (oi := { dst := some 18, op := Go.Op.build 41 #[(0, Go.Operand.tmp 8), (1, Go.Operand.tmp 10), (2, Go.Operand.tmp 12), (3, Go.Operand.tmp 14), (4, Go.Operand.tmp 17)], type := 41, pos := _, after := #[{ on := 1, ground := Go.Ground.data }, { on := 3, ground := Go.Ground.data }, { on := 5, ground := Go.Ground.data }, { on := 7, ground := Go.Ground.data }, { on := 10, ground := Go.Ground.data }], guard := none }) (v := .agg #[.int .i64 (pb n 0), .int .i64 (pb n 1), .int .i64 (pb n 2), .int .i64 (pb n 3), .int .i64 SX]) rfl (by kernel_rfl) (by kernel_rfl) (by kernel_rfl) (fun _ _ _ h => h) (Or.inl ⟨by rfl, fun w' hw' => ?_⟩) hHeld ?_
    · first | (go_simp; done) | (go_simp; rfl)
    try simp only [Act.put, List.setIfInBounds_toArray, List.set_cons_zero, List.set_cons_succ]
    refine wpAnyH_ready (rs := [13]) (by kernel_rfl) (by simp) ?_
    refine AllReadyH.cons (o := { dst := none, op := Go.Op.store 41 (Go.Operand.tmp 5) (Go.Operand.tmp 18), type := 0, pos := _, after := #[{ on := 12, ground := Go.Ground.data }, { on := 11, ground := Go.Ground.data }, { on := 7, ground := Go.Ground.chain }, { on := 0, ground := Go.Ground.phase }, { on := 1, ground := Go.Ground.phase }, { on := 2, ground := Go.Ground.phase }, { on := 3, ground := Go.Ground.phase }, { on := 4, ground := Go.Ground.phase }, { on := 5, ground := Go.Ground.phase }, { on := 6, ground := Go.Ground.phase }, { on := 7, ground := Go.Ground.phase }, { on := 8, ground := Go.Ground.phase }, { on := 9, ground := Go.Ground.phase }, { on := 10, ground := Go.Ground.phase }, { on := 11, ground := Go.Ground.phase }, { on := 12, ground := Go.Ground.phase }], guard := none }) rfl (fun K hK => ?_) AllReadyH.nil
    rw [if_pos (by rfl)]
    go_wp2
    refine hK.out _ _ (hW.alloc _) (fun _ => ?_)
    clear hK K
    try simp only [Act.put, List.setIfInBounds_toArray, List.set_cons_zero, List.set_cons_succ]
    refine wpAnyH_done (by kernel_rfl) ?_ _
    clear hHeld hW
    go_wp2_with fail
    refine Calls.mono (hM _) ?_
    rintro e wq ⟨rfl, hbq⟩
    obtain ⟨hIR, hRR, hBQ⟩ := HNX.out wq hbq
    have HIR : Hid (wq.rangeAt W.heap.size 0 IA) := hIR
    have HRR : Hid (wq.heap[w.heap.size + 1]? = some (.cells ZI.toArray 41 (0, 0))) := hRR
    have HBQ : Hid (Below w.heap.size w wq) := hBQ
    clear hIR hRR hBQ hbq HNX hM
    cases MB
    · have HD2 : Hid (DN = none) := HD.out
      clear HD
      go_wp2_with (first
        | (refine wpList_store_row rfl 41 _ _ rfl (w.heap.size + 1) ZI.toArray rfl (by rw [HZA.out]; rfl) 41 ZI.toArray HRR.out HZI.out rfl HZ1.out ?_))
      refine bodyPost_ret (v := .tuple #[.agg ZI.toArray, .int .i64 4]) (results2 Tryz.results12 _ _ (w.heap.size + 1) 41 ZI (0, 0) _ rfl rfl (setRow_heap _ _ _ _ _ _ HRR.out) Tryz.underlying41 rfl HZI2.out) rfl ⟨?_, below_setRow HBQ.out (by omega) _⟩
      rw [HD2.out, HZA.out]; rfl
    · have HD2 : Hid (DN = some ⟨pb n 0, pb n 1, pb n 2, pb n 3, SX⟩) := HD.out
      clear HD
      go_wp2_with (first
        | (refine wpList_load_mid rfl 41 _ rfl W.heap.size 0 rfl IA _ HIR.out Tryz.underlying41 rfl HII.out ?_)
        | (refine wpList_store_row rfl 41 _ _ rfl (w.heap.size + 1) IA.toArray rfl rfl 41 ZI.toArray HRR.out HII2.out HIZ.out HI1.out ?_))
      refine bodyPost_ret (v := .tuple #[.agg IA.toArray, .int .i64 0]) (results2 Tryz.results12 _ _ (w.heap.size + 1) 41 IA (0, 0) _ rfl rfl (setRow_heap _ _ _ _ _ _ HRR.out) Tryz.underlying41 rfl HII.out) rfl ⟨?_, below_setRow HBQ.out (by omega) _⟩
      rw [HD2.out, HIA.out]; rfl
end Go.Proofs.YtkpjfhphohanlaaGreatDoor.JC
