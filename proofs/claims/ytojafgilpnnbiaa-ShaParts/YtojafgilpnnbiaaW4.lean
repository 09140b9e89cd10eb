/- Contracts: sha's Press; ref's Press over lists; equal rows of words, of bytes; rows that came in. -/
import Derived.Test.YtojafgilpnnbiaaA3
import Derived.Stop.BytesEq
import Derived.WideKeyArr2
set_option linter.unusedVariables false
set_option linter.unusedSimpArgs false
namespace Go.Proofs.Ytojafgilpnnbiaa
open Go.RowKit

theorem heap_alloc_eq (w : World) (o : Obj) : (w.alloc o).heap = w.heap.push o := rfl
theorem h2a (w : World) (a b : Obj) : ((w.alloc a).alloc b).drew.heap[w.heap.size]? = some a := by
  rw [heap_drew, Below.heap_alloc _ _ _ (by simp)]; exact heap_alloc_new _ _
theorem h2b (w : World) (a b : Obj) : ((w.alloc a).alloc b).drew.heap[w.heap.size + 1]? = some b := by
  rw [heap_drew]; exact heap_at _ _ _ (by simp)
theorem h3a (w : World) (a b c : Obj) : (((w.alloc a).alloc b).alloc c).drew.heap[w.heap.size]? = some a := by
  rw [heap_drew, Below.heap_alloc _ _ _ (by simp; omega), Below.heap_alloc _ _ _ (by simp)]; exact heap_alloc_new _ _
theorem h3b (w : World) (a b c : Obj) : (((w.alloc a).alloc b).alloc c).drew.heap[w.heap.size + 1]? = some b := by
  rw [heap_drew, Below.heap_alloc _ _ _ (by simp)]; exact heap_at _ _ _ (by simp)
theorem h3c (w : World) (a b c : Obj) : (((w.alloc a).alloc b).alloc c).drew.heap[w.heap.size + 2]? = some c := by
  rw [heap_drew]; exact heap_at _ _ _ (by simp)
theorem below_size {w w' : World} (h : Below w.heap.size w w') : w.heap.size ≤ w'.heap.size := h.size
theorem HW.below {w w' : World} {v : Value} {l : List UInt32} (h : HW w v l) (hb : Below w.heap.size w w') : HW w' v l := by
  obtain ⟨p, cap, h1, h2⟩ := h
  refine ⟨p, cap, h1, fun i hi => ?_⟩
  obtain ⟨b, o, e, hc⟩ := h2 i hi
  exact ⟨b, o, e, (hb.cell (block_lt hc)).trans hc⟩
theorem eq_words_self (w : World) (d : Nat) (t e : TypeId) (n : Nat) (ht : Try.prog.underlying t = some (.array n e)) (he : Try.prog.underlying e = some (.int .u32)) (hsz : ∀ w, (sizeOf e).run Try.prog w = .ok 1 w)
    (xs : List UInt32) (hx : xs.length = n) :
    (Op.equalIn (d + 2) t (.agg (xs.map W32).toArray) (.agg (xs.map W32).toArray)).run Try.prog w = .ok true w := by
  rw [Op.equalIn]
  simp only [Sem.run_bind, run_underlying ht, Result.andThen_ok, hsz, Std.Legacy.Range.forIn_eq_forIn_range', Std.Legacy.Range.size, Nat.sub_zero, Nat.add_sub_cancel, Nat.div_one]
  have hl : ∀ i ∈ List.range' 0 n 1, i < n := fun i hi => by simpa using (List.mem_range'_1.1 hi).2
  generalize List.range' 0 n 1 = l at hl ⊢
  induction l with
  | nil => simp
  | cons i l ih =>
    have hi : i < n := hl i (by simp)
    have px : (Go.part e (xs.map W32).toArray (i * 1)).run Try.prog w = .ok (W32 (xs.getD i 0)) w := by
      simp [Go.part, isAgg, run_underlying he, List.getD, List.getElem?_eq_getElem (show i < xs.length by omega)]
    have pe : (Op.equalIn (d + 1) e (W32 (xs.getD i 0)) (W32 (xs.getD i 0))).run Try.prog w = .ok true w := by
      unfold W32
      rw [run_equalIn_int w d e .u32 .u32 _ _ he]
      simp
    simp only [List.forIn_cons, Sem.run_bind, px, pe, Result.andThen_ok]
    simp only [Bool.not_true, Bool.false_eq_true, if_false, Sem.run_pure, Result.andThen_ok, Bool.true_and]
    exact ih fun j hj => hl j (by simp [hj])
theorem size_u32 (w : World) : (sizeOf 30).run Try.prog w = .ok 1 w := by
  obtain ⟨i0, hi, hz0, hz1, hz2⟩ := info_parts Try.infoU32
  simp [sizeOf, typeInfo, hi, hz1]
theorem size_u8 (w : World) : (sizeOf 5).run Try.prog w = .ok 1 w := by
  obtain ⟨i0, hi, hz0, hz1, hz2⟩ := info_parts Try.infoU8
  simp [sizeOf, typeInfo, hi, hz1]
theorem eql_words (w : World) (xs : List UInt32) (hx : xs.length = 8) : (binOp .eql 31 (.agg (xs.map W32).toArray) (.agg (xs.map W32).toArray)).run Try.prog w = .ok (.bool true) w := by
  rw [run_eql_struct, eq_words_self w 9998 31 30 8 Try.underlying31 Try.underlying30 size_u32 xs hx]
  rfl
theorem eql_digest (w : World) (xs ys : List UInt8) (hx : xs.length = 32) (hy : ys.length = 32) : (binOp .eql 25 (.agg (xs.map B8).toArray) (.agg (ys.map B8).toArray)).run Try.prog w = .ok (.bool (xs == ys)) w :=
  run_eql_bytes w 25 5 32 Try.underlying25 Try.underlying5 size_u8 xs ys hx hy

/-- What stays while Press runs. -/
def PS (w : World) (HL BL : List Value) (w' : World) : Prop :=
  w'.rangeAt w.heap.size 0 HL ∧ w'.rangeAt (w.heap.size + 1) 0 BL ∧ (∃ Z : Array Value, Z.size = 8 ∧ w'.heap[w.heap.size + 2]? = some (.cells Z 31 (0, 0))) ∧ Below w.heap.size w w' ∧ w.heap.size + 3 ≤ w'.heap.size
theorem PS.below {w a b : World} {HL BL : List Value} (h : PS w HL BL a) (hb : Below a.heap.size a b) : PS w HL BL b := by
  obtain ⟨h1, h2, ⟨Z, z1, z2⟩, h3, h4⟩ := h
  exact ⟨rangeAt_below h1 hb, rangeAt_below h2 hb, ⟨Z, z1, (hb.block _ (by omega)).trans z2⟩, h3.trans (hb.mono (by omega)), by have := hb.size; omega⟩
theorem PS.set {w a : World} {HL BL : List Value} (h : PS w HL BL a) (N : Array Value) (hn : N.size = 8) : PS w HL BL (a.setRow (w.heap.size + 2) N) := by
  obtain ⟨h1, h2, ⟨Z, z1, z2⟩, h3, h4⟩ := h
  exact ⟨rangeAt_setRow h1 (by omega), rangeAt_setRow h2 (by omega), ⟨N, hn, setRow_heap _ _ _ _ _ _ z2⟩, below_setRow h3 (by omega) _, by simpa using h4⟩

set_option maxHeartbeats 4000000 in
set_option maxRecDepth 100000 in
theorem pressT_any (hs : List UInt32) (bs : List UInt8) (w : World) (h8 : hs.length = 8) (hb : bs.length = 64) :
    Calls Try.prog 15 #[.agg (hs.map W32).toArray, .agg (bs.map B8).toArray] w fun e w' => e = .returned (.agg ((press hs bs K64).map W32).toArray) ∧ Below w.heap.size w w' := by
  have hc := fun W => shaConstants_any W
  have hp := fun W => shaPress_l hs bs K64 W h8 hb rfl
  obtain ⟨HL, hHL⟩ : ∃ HL, HL = hs.map W32 := ⟨_, rfl⟩
  obtain ⟨BL, hBL⟩ : ∃ BL, BL = bs.map B8 := ⟨_, rfl⟩
  obtain ⟨NB, hNB⟩ : ∃ NB, NB = ((press hs bs K64).map W32).toArray := ⟨_, rfl⟩
  obtain ⟨KC, hKC⟩ : ∃ KC, KC = (K64.map W32).toArray := ⟨_, rfl⟩
  have hu1 := Try.underlying31
  have hu2 := Try.underlying32
  have hiH : (Try.prog.info? 31).map (·.size) = some HL.length := by rw [hHL, List.length_map, h8]; kernel_rfl
  have hiB : (Try.prog.info? 32).map (·.size) = some BL.length := by rw [hBL, List.length_map, hb]; kernel_rfl
  have hN8 : NB.size = 8 := by rw [hNB]; simp [press_len _ _ h8]
  have hiN : (Try.prog.info? 31).map (·.size) = some NB.size := by rw [hN8]; kernel_rfl
  have hN1 : NB.all (·.oneCell') = true := by rw [hNB]; exact W32_one _
  simp only [← hHL, ← hBL, ← hNB, ← hKC] at hp hc ⊢
  have HIN : Hid _ := hiN
  have HN1 : Hid _ := hN1
  have HN8 : Hid _ := hN8
  clear hHL hBL hNB hKC h8 hb hiN hN1 hN8
  go_enter Try.func15, Try.ntmps15
  go_wp2
  refine wp_region_held_drew (S := PS w HL BL) (by kernel_rfl) ?_ (fun hHeld => ?_)
  · refine ⟨rangeAt_row (h3a _ _ _ _), rangeAt_row (h3b _ _ _ _), ⟨_, ?_, h3c _ _ _ _⟩, ?_, ?_⟩
    · rfl
    · exact ((((Below.refl _ _).alloc (Nat.le_refl _) _).alloc (by simp) _).alloc (by simp; omega) _).drew
    · simp [heap_alloc_eq, heap_drew]
  refine wpAnyH_take (i := 0) (oi := { dst := some 5, op := Go.Op.load 31 (Go.Operand.tmp 2), type := 31, pos := _, after := #[], guard := none }) rfl (by kernel_rfl) (by kernel_rfl) (by kernel_rfl) (fun _ _ _ h => h) (yieldsIf_load_mid (by rfl) 31 (.tmp 2) rfl (w.heap.size) (0) rfl (HL) _ (fun _ h => h.1) hu1 rfl hiH) hHeld ?_
  try simp only [Act.put, List.setIfInBounds_toArray, List.set_cons_zero, List.set_cons_succ]
  refine wpAnyH_take (i := 1) (oi := { dst := some 6, op := Go.Op.load 32 (Go.Operand.tmp 3), type := 32, pos := _, after := #[], guard := none }) rfl (by kernel_rfl) (by kernel_rfl) (by kernel_rfl) (fun _ _ _ h => h) (yieldsIf_load_mid (by rfl) 32 (.tmp 3) rfl (w.heap.size + 1) (0) rfl (BL) _ (fun _ h => h.2.1) hu2 rfl hiB) hHeld ?_
  try simp only [Act.put, List.setIfInBounds_toArray, List.set_cons_zero, List.set_cons_succ]
  refine wpAnyH_ready (rs := [2]) (by kernel_rfl) (by simp) ?_
  refine AllReadyH.cons (o := { dst := some 7, op := Go.Op.call { callee := Go.Callee.value (Go.Operand.func 37), args := #[], argTypes := #[] }, type := 63, pos := _, after := #[], guard := none }) rfl (fun K hK => ?_) AllReadyH.nil
  rw [if_pos (by rfl)]
  go_wp2_with fail
  refine (hc _).mono ?_
  rintro e w1 ⟨rfl, hb1⟩
  have hHeld1 := PS.below hHeld hb1
  clear hb1
  refine hK.out _ _ hHeld1 (fun _ => ?_)
  clear hK K
  try simp only [Act.put, List.setIfInBounds_toArray, List.set_cons_zero, List.set_cons_succ]
  refine wpAnyH_ready (rs := [3]) (by kernel_rfl) (by simp) ?_
  refine AllReadyH.cons (o := { dst := some 8, op := Go.Op.call { callee := Go.Callee.value (Go.Operand.func 36), args := #[Go.Operand.tmp 5, Go.Operand.tmp 6, Go.Operand.tmp 7], argTypes := #[31, 32, 63] }, type := 31, pos := _, after := #[{ on := 0, ground := Go.Ground.data }, { on := 1, ground := Go.Ground.data }, { on := 2, ground := Go.Ground.data }, { on := 2, ground := Go.Ground.chain }], guard := none }) rfl (fun K hK => ?_) AllReadyH.nil
  rw [if_pos (by rfl)]
  go_wp2_with fail
  refine (hp _).mono ?_
  rintro e w2 ⟨rfl, hb2⟩
  have hHeld2 := PS.below hHeld1 hb2
  clear hb2
  refine hK.out _ _ hHeld2 (fun _ => ?_)
  clear hK K
  try simp only [Act.put, List.setIfInBounds_toArray, List.set_cons_zero, List.set_cons_succ]
  refine wpAnyH_ready (rs := [4]) (by kernel_rfl) (by simp) ?_
  refine AllReadyH.cons (o := { dst := none, op := Go.Op.store 31 (Go.Operand.tmp 4) (Go.Operand.tmp 8), type := 0, pos := _, after := #[{ on := 3, ground := Go.Ground.data }, { on := 3, ground := Go.Ground.chain }, { on := 0, ground := Go.Ground.phase }, { on := 1, ground := Go.Ground.phase }, { on := 2, ground := Go.Ground.phase }, { on := 3, ground := Go.Ground.phase }], guard := none }) rfl (fun K hK => ?_) AllReadyH.nil
  rw [if_pos (by rfl)]
  obtain ⟨Z, hZ8, hZ⟩ := hHeld2.2.2.1
  refine wp_store_row 31 _ _ rfl (w.heap.size + 2) NB rfl rfl 31 _ hZ HIN.out (hZ8.trans HN8.out.symm) HN1.out ?_
  refine hK.out _ _ (PS.set hHeld2 NB HN8.out) (fun _ => ?_)
  clear hK K
  try simp only [Act.put, List.setIfInBounds_toArray, List.set_cons_zero, List.set_cons_succ]
  refine wpAnyH_done (by kernel_rfl) ?_ _
  have HZ : Hid _ := hZ
  have HB2 : Hid _ := hHeld2.2.2.2.1
  clear hHeld hHeld1 hHeld2 hZ
  go_wp2
  refine bodyPost_ret (v := .agg NB) ?_ rfl ⟨rfl, below_setRow HB2.out (by omega) _⟩
  exact results_cell_row Try.results15 _ _ (w.heap.size + 2) 31 _ (0, 0) _ rfl (setRow_heap _ _ _ _ _ _ HZ.out) Try.underlying31 rfl HIN.out

end Go.Proofs.Ytojafgilpnnbiaa
