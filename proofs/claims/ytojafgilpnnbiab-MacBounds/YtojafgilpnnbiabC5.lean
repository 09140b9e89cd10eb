/- Contracts of mac's Equal, Check, isLabel; of Derive and Keys where they refuse; the law's num. -/
import Derived.Test.YtojafgilpnnbiabB5
import Derived.BigQuiet
import Derived.Deep.QuietTactic
import Derived.WalkSmall
import Derived.Laws.ResultCell
set_option linter.unusedVariables false
set_option linter.unusedSimpArgs false
namespace Go.Proofs.Ytojafgilpnnbiab
open Go.RowKit

abbrev Z32 : Array Value := #[.int .u8 0, .int .u8 0, .int .u8 0, .int .u8 0, .int .u8 0, .int .u8 0, .int .u8 0, .int .u8 0, .int .u8 0, .int .u8 0, .int .u8 0, .int .u8 0, .int .u8 0, .int .u8 0, .int .u8 0, .int .u8 0, .int .u8 0, .int .u8 0, .int .u8 0, .int .u8 0, .int .u8 0, .int .u8 0, .int .u8 0, .int .u8 0, .int .u8 0, .int .u8 0, .int .u8 0, .int .u8 0, .int .u8 0, .int .u8 0, .int .u8 0, .int .u8 0]
theorem z32_one : Z32.all (·.oneCell') = true := by
  have := B8_onea (List.replicate 32 0)
  exact this
theorem results_dig2 {fn : Func} {p u : Tmp} (h : fn.results = #[.cell p 24, .tmp u]) (tmps : Array Value) (w : World) (g : Nat) (t : TypeId) (cs : Array Value) (fr : Nat × Nat) (x : Value)
    (hp : tmps.getD p undef = .pointer (some ⟨g, 0, none⟩)) (hx : tmps.getD u undef = x) (hg : w.heap[g]? = some (.cells cs t fr)) (hi : (Try.prog.info? 24).map (·.size) = some cs.size) :
    (results fn tmps).run Try.prog w = .ok (.tuple #[.agg cs, x]) w := by
  rw [results_cell_tmp h, hp, hx]
  simp [asAddr, run_loadVar_row w g t 24 cs fr _ hg Try.underlying24 rfl hi]

theorem num_any (n : Int) (w : World) : Calls Try.prog 17 #[.int .i64 n] w fun e w' => e = .returned (.int .i64 n) ∧ w = w' := by
  go_enter Try.func17, Try.ntmps17
  go_wp2
  go_ret
  exact ⟨rfl, rfl⟩

/-- What is unlike in the first k bytes. -/
def orx (a b : List UInt8) : Nat → UInt8
  | 0 => 0
  | k + 1 => orx a b k ||| (a.getD k 0 ^^^ b.getD k 0)
theorem or_u8 (x p : UInt8) : bits .or .u8 (x.toNat : Int) (p.toNat : Int) = (((x ||| p).toNat : Nat) : Int) := by
  rw [u8_or_nat _ _ (by have := x.toNat_lt; omega) (by have := p.toNat_lt; omega)]
  simp
theorem or_zero (x y : UInt8) : x ||| y = 0 ↔ x = 0 ∧ y = 0 := UInt8.or_eq_zero_iff
theorem xor_zero (x y : UInt8) : x ^^^ y = 0 ↔ x = y := UInt8.xor_eq_zero_iff
theorem orx_zero (a b : List UInt8) (k : Nat) : orx a b k = 0 ↔ ∀ i, i < k → a.getD i 0 = b.getD i 0 := by
  induction k with
  | zero => simp [orx]
  | succ k ih =>
    rw [orx, or_zero, ih, xor_zero]
    constructor
    · rintro ⟨h1, h2⟩ i hi
      rcases Nat.lt_succ_iff_lt_or_eq.1 hi with h | rfl
      · exact h1 i h
      · exact h2
    · intro h
      exact ⟨fun i hi => h i (by omega), h k (by omega)⟩
theorem orx_eq (a b : List UInt8) (ha : a.length = 32) (hb : b.length = 32) : orx a b 32 = 0 ↔ a = b := by
  rw [orx_zero]
  constructor
  · intro h
    apply List.ext_getElem (by omega)
    intro i h1 h2
    have := h i (by omega)
    simpa [List.getD, List.getElem?_eq_getElem h1, List.getElem?_eq_getElem h2] using this
  · rintro rfl i hi; rfl
theorem row_get (a : List UInt8) (n : Nat) (h : a.length = n) (i : Nat) (hi : i < n) : (a.map B8).toArray[i]? = some (.int .u8 ((a.getD i 0).toNat : Int)) := by
  have : i < a.length := by omega
  simp [B8, List.getD, List.getElem?_eq_getElem this]

set_option maxHeartbeats 2000000 in
theorem equal_any (a b : List UInt8) (w : World) (ha : a.length = 32) (hb : b.length = 32) :
    Calls Try.prog 14 #[.agg (a.map B8).toArray, .agg (b.map B8).toArray] w fun e w' => e = .returned (.bool (a == b)) ∧ Below w.heap.size w w' := by
  obtain ⟨R, hR⟩ : ∃ R : Bool, R = (a == b) := ⟨_, rfl⟩
  have hfin : (((orx a b 32).toNat : Int) == 0) = R := by
    rw [hR, Bool.eq_iff_iff]
    simp only [beq_iff_eq]
    rw [← orx_eq a b ha hb]
    constructor
    · intro h; exact UInt8.toNat_inj.1 (by simpa using h)
    · intro h; rw [h]; rfl
  rw [← hR]
  have hA := row_get a 32 ha
  have hB := row_get b 32 hb
  have hstep : ∀ k, orx a b (k + 1) = orx a b k ||| (a.getD k 0 ^^^ b.getD k 0) := fun _ => rfl
  have h00 : orx a b 0 = 0 := rfl
  generalize (a.map B8).toArray = AA at *
  generalize (b.map B8).toArray = BA at *
  generalize orx a b = O at *
  have HA : Hid _ := hA
  have HBb : Hid _ := hB
  have HS : Hid _ := hstep
  have HF : Hid _ := hfin
  have H0 : Hid _ := h00
  clear hR hA hB hstep hfin h00
  go_enter Try.func14, Try.ntmps14
  go_wp2
  go_loopw [5, 7] (fun u i wr => ∃ k : Nat, k ≤ 32 ∧ u = .int .u8 ((O k).toNat : Int) ∧ i = .int .i64 k ∧ wr.heap[w.heap.size]? = some (.cells AA 24 (0, 0)) ∧ wr.heap[w.heap.size + 1]? = some (.cells BA 24 (0, 0)) ∧ Below w.heap.size w wr) (fun _ i _ => 32 - (intOf i).toNat)
  case atStart =>
    exact ⟨0, by omega, by rw [H0.out]; rfl, rfl, alloc2_first _ _ _, heap_alloc2_new _ _ _, ((Below.refl _ _).alloc (Nat.le_refl _) _).alloc (by simp) _⟩
  case round =>
    obtain ⟨k, hk, rfl, rfl, h0, h1, hbel⟩ := hrel
    have H0' : Hid _ := h0
    have H1' : Hid _ := h1
    by_cases hlt : k < 32
    · have hcx := (cell_of_row _ _ k _ _ _ h0).trans (HA.out k hlt)
      have hcy := (cell_of_row _ _ k _ _ _ h1).trans (HBb.out k hlt)
      have hx := xor_u8 (a.getD k 0) (b.getD k 0)
      have ho := or_u8 (O k) (a.getD k 0 ^^^ b.getD k 0)
      have HS' : Hid _ := HS.out k
      generalize a.getD k 0 ^^^ b.getD k 0 = z at *
      generalize a.getD k 0 = x at *
      generalize b.getD k 0 = y at *
      generalize hO : O k = o at *
      clear h0 h1 hO
      go_wp2
      go_quiet (fail)
      go_wp2
      go_roundw
      case rel => exact ⟨k + 1, by omega, by rw [HS'.out, UInt8.toNat_or], by go_num, H0'.out, H1'.out, below_drewN hbel _⟩
      case measure => simp [intOf]; omega
    · have hk' : k = 32 := by omega
      subst hk'
      have hf := HF.out
      generalize O 32 = o at *
      clear h0 h1
      go_wp2
      go_ret
      exact ⟨rfl, hbel⟩

theorem toList_ne (s : ByteArray) (h0 : ¬ s.size = 0) : s.toList.isEmpty = false := by
  rw [Lib.toList_data]
  cases s with | mk d =>
    cases d with | mk l =>
      cases l with
      | nil => exact absurd rfl h0
      | cons a r => rfl
theorem isLabel_no (s : ByteArray) (w : World) (h : s.size = 0 ∨ 64 < s.size) : Calls Try.prog 26 #[.string s] w fun e w' => e = .returned (.bool false) ∧ w = w' := by
  by_cases h0 : s.size = 0
  · obtain rfl : s = ⟨#[]⟩ := by
      cases s with | mk d => congr 1; exact Array.eq_empty_of_size_eq_zero h0
    go_enter Try.func26, Try.ntmps26
    go_wp2
    go_ret
    exact ⟨rfl, rfl⟩
  · have hl : ¬ (s.size : Int) ≤ 64 := by omega
    have hne := toList_ne s h0
    go_enter Try.func26, Try.ntmps26
    go_wp2
    go_ret
    exact ⟨rfl, rfl⟩
theorem isLabel_yes (s : ByteArray) (w : World) (h0 : ¬ s.size = 0) (h : s.size ≤ 64) : Calls Try.prog 26 #[.string s] w fun e w' => e = .returned (.bool true) ∧ w = w' := by
  have hl : (s.size : Int) ≤ 64 := by omega
  have hne := toList_ne s h0
  go_enter Try.func26, Try.ntmps26
  go_wp2
  go_ret
  exact ⟨rfl, rfl⟩

/-- What stays while Check runs. -/
def CS1 (w : World) (DL : List Value) (w' : World) : Prop := w'.rangeAt w.heap.size 0 DL ∧ Below w.heap.size w w' ∧ w.heap.size + 1 ≤ w'.heap.size
theorem CS1.below {w a b : World} {DL : List Value} (h : CS1 w DL a) (hb : Below a.heap.size a b) : CS1 w DL b := by
  obtain ⟨h1, h2, h3⟩ := h
  exact ⟨rangeAt_below h1 hb, h2.trans (hb.mono (by omega)), by have := hb.size; omega⟩

set_option maxHeartbeats 2000000 in
set_option maxRecDepth 100000 in
theorem check_any (kv bv : Value) (key b d : List UInt8) (w : World) (hrk : key.length ≤ 4294967000) (hrb : b.length ≤ 4294967000) (hd : d.length = 32) (hk : HB w kv key) (hb : HB w bv b) :
    Calls Try.prog 11 #[kv, bv, .agg (d.map B8).toArray] w fun e w' => e = .returned (.bool (macL key b == d)) ∧ Below w.heap.size w w' := by
  have ht := fun W h1 h2 => tag_any kv bv key b W hrk hrb h1 h2
  have he := fun W => equal_any (macL key b) d W (macL_len _ _) hd
  obtain ⟨DL, hDL⟩ : ∃ DL, DL = d.map B8 := ⟨_, rfl⟩
  have hiD : (Try.prog.info? 24).map (·.size) = some DL.length := by rw [hDL, List.length_map, hd]; kernel_rfl
  have hu := Try.underlying24
  rw [← hDL] at he ⊢
  generalize (macL key b == d) = R at *
  generalize ((macL key b).map B8).toArray = MA at *
  have HKV : Hid _ := hk
  have HBV : Hid _ := hb
  obtain ⟨pk, capk, rfl, _⟩ := hk.cells
  obtain ⟨pb, capb, rfl, _⟩ := hb.cells
  clear hDL hk hb
  go_enter Try.func11, Try.ntmps11
  go_wp2
  refine wp_region_held_drew (S := CS1 w DL) (by kernel_rfl) ?_ (fun hHeld => ?_)
  · refine ⟨rangeAt_row (by rw [heap_drew]; exact heap_alloc_new _ _), ((Below.refl _ _).alloc (Nat.le_refl _) _).drew, by simp [heap_alloc_eq, heap_drew]⟩
  refine wpAnyH_take (i := 0) (oi := { dst := some 7, op := Go.Op.move (Go.Operand.tmp 0), type := 22, pos := _, after := #[], guard := none }) (v := .slice pk key.length capk) rfl (by kernel_rfl) (by kernel_rfl) (by kernel_rfl) (fun _ _ _ h => h) (Or.inl ⟨by rfl, fun w' hw' => ?_⟩) hHeld ?_
  · first | (go_simp; done) | (go_simp; rfl)
  try simp only [Act.put, List.setIfInBounds_toArray, List.set_cons_zero, List.set_cons_succ]
  refine wpAnyH_take (i := 1) (oi := { dst := some 8, op := Go.Op.move (Go.Operand.tmp 1), type := 22, pos := _, after := #[], guard := none }) (v := .slice pb b.length capb) rfl (by kernel_rfl) (by kernel_rfl) (by kernel_rfl) (fun _ _ _ h => h) (Or.inl ⟨by rfl, fun w' hw' => ?_⟩) hHeld ?_
  · first | (go_simp; done) | (go_simp; rfl)
  try simp only [Act.put, List.setIfInBounds_toArray, List.set_cons_zero, List.set_cons_succ]
  refine wpAnyH_take (i := 3) (oi := { dst := some 10, op := Go.Op.load 24 (Go.Operand.tmp 5), type := 24, pos := _, after := #[], guard := none }) rfl (by kernel_rfl) (by kernel_rfl) (by kernel_rfl) (fun _ _ _ h => h) (yieldsIf_load_mid (by rfl) 24 (.tmp 5) rfl (w.heap.size) (0) rfl (DL) _ (fun _ h => h.1) hu rfl hiD) hHeld ?_
  try simp only [Act.put, List.setIfInBounds_toArray, List.set_cons_zero, List.set_cons_succ]
  refine wpAnyH_ready (rs := [2]) (by kernel_rfl) (by simp) ?_
  refine AllReadyH.cons (o := { dst := some 9, op := Go.Op.call { callee := Go.Callee.value (Go.Operand.func 9), args := #[Go.Operand.tmp 7, Go.Operand.tmp 8], argTypes := #[22, 22] }, type := 24, pos := _, after := #[{ on := 0, ground := Go.Ground.data }, { on := 1, ground := Go.Ground.data }], guard := none }) rfl (fun K hK => ?_) AllReadyH.nil
  rw [if_pos (by rfl)]
  go_wp2_with fail
  refine (ht _ ?_ ?_).mono ?_
  · exact HB.below HKV.out hHeld.2.1
  · exact HB.below HBV.out hHeld.2.1
  rintro e w1 ⟨rfl, hb1⟩
  have hHeld1 := CS1.below hHeld hb1
  clear hb1
  refine hK.out _ _ hHeld1 (fun _ => ?_)
  clear hK K
  try simp only [Act.put, List.setIfInBounds_toArray, List.set_cons_zero, List.set_cons_succ]
  refine wpAnyH_ready (rs := [4]) (by kernel_rfl) (by simp) ?_
  refine AllReadyH.cons (o := { dst := some 11, op := Go.Op.call { callee := Go.Callee.value (Go.Operand.func 14), args := #[Go.Operand.tmp 9, Go.Operand.tmp 10], argTypes := #[24, 24] }, type := 4, pos := _, after := #[{ on := 2, ground := Go.Ground.data }, { on := 3, ground := Go.Ground.data }, { on := 2, ground := Go.Ground.chain }], guard := none }) rfl (fun K hK => ?_) AllReadyH.nil
  rw [if_pos (by rfl)]
  go_wp2_with fail
  refine (he _).mono ?_
  rintro e w2 ⟨rfl, hb2⟩
  have hHeld2 := CS1.below hHeld1 hb2
  clear hb2
  refine hK.out _ _ hHeld2 (fun _ => ?_)
  clear hK K
  try simp only [Act.put, List.setIfInBounds_toArray, List.set_cons_zero, List.set_cons_succ]
  have hHeld := hHeld2
  refine wpAnyH_take (i := 5) (oi := { dst := some 6, op := Go.Op.assign (Go.Operand.tmp 11), type := 4, pos := _, after := #[{ on := 4, ground := Go.Ground.data }, { on := 4, ground := Go.Ground.chain }, { on := 0, ground := Go.Ground.phase }, { on := 1, ground := Go.Ground.phase }, { on := 2, ground := Go.Ground.phase }, { on := 3, ground := Go.Ground.phase }, { on := 4, ground := Go.Ground.phase }], guard := none }) (v := .bool R) rfl (by kernel_rfl) (by kernel_rfl) (by kernel_rfl) (fun _ _ _ h => h) (Or.inl ⟨by rfl, fun w' hw' => ?_⟩) hHeld ?_
  · first | (go_simp; done) | (go_simp; rfl)
  try simp only [Act.put, List.setIfInBounds_toArray, List.set_cons_zero, List.set_cons_succ]
  refine wpAnyH_done (by kernel_rfl) ?_ _
  have HB2 : Hid _ := hHeld2.2.1
  clear hHeld hHeld1 hHeld2
  go_wp2
  go_ret
  exact ⟨rfl, HB2.out⟩

set_option maxHeartbeats 1000000 in
theorem derive_bad (d : List UInt8) (s : ByteArray) (n : Int) (w : World) (hd : d.length = 32) (hs : s.size = 0 ∨ 64 < s.size) :
    Calls Try.prog 15 #[.agg (d.map B8).toArray, .string s, .int .u64 n] w fun e w' => e = .returned (.tuple #[.agg Z32, .int .i64 2]) ∧ Below w.heap.size w w' := by
  have hl := fun W => isLabel_no s W hs
  generalize (d.map B8).toArray = DA at *
  clear hs hd
  go_enter Try.func15, Try.ntmps15
  go_wp2_with fail
  refine (hl _).mono ?_
  rintro e w1 ⟨rfl, hw⟩
  have G : Hid (w1.heap[w.heap.size + 1]? = some (.cells Z32 24 (0, 0))) := by rw [← hw]; exact heap_alloc2_new _ _ _
  have hb : Below w.heap.size w w1 := by rw [← hw]; exact ((Below.refl _ _).alloc (Nat.le_refl _) _).alloc (by simp) _
  clear hw hl
  go_wp2_with (refine wpList_store_row rfl 24 _ _ rfl (w.heap.size + 1) Z32 rfl rfl 24 _ G.out (by kernel_rfl) rfl z32_one ?_)
  refine bodyPost_ret (v := .tuple #[.agg Z32, .int .i64 2]) ?_ rfl ⟨rfl, below_setRow hb (by omega) _⟩
  exact results_dig2 Try.results15 _ _ (w.heap.size + 1) 24 _ (0, 0) _ rfl rfl (setRow_heap _ _ _ _ _ _ G.out) (by kernel_rfl)

theorem keys_bad (d : List UInt8) (s : ByteArray) (n : Int) (w : World) (hs : (s.size = 0 ∨ 64 < s.size) ∨ n < 0 ∨ 256 < n) :
    Calls Try.prog 19 #[.agg (d.map B8).toArray, .string s, .int .i64 n] w fun e w' => e = .returned (.tuple #[.slice none 0 0, .int .i64 2]) ∧ Below w.heap.size w w' := by
  generalize (d.map B8).toArray = DA at *
  by_cases hlab : s.size = 0 ∨ 64 < s.size
  · have hl := fun W => isLabel_no s W hlab
    clear hs hlab
    go_enter Try.func19, Try.ntmps19
    go_wp2_with fail
    refine (hl _).mono ?_
    rintro e w1 ⟨rfl, rfl⟩
    clear hl
    go_wp2
    go_ret2
    exact ⟨rfl, (Below.refl _ _).alloc (Nat.le_refl _) _⟩
  · have hl := fun W => isLabel_yes s W (by omega) (by omega)
    have hn : n < 0 ∨ 256 < n := hs.resolve_left hlab
    clear hs hlab
    by_cases h0 : n < 0
    · clear hn
      go_enter Try.func19, Try.ntmps19
      go_wp2_with fail
      refine (hl _).mono ?_
      rintro e w1 ⟨rfl, rfl⟩
      clear hl
      go_wp2
      go_ret2
      exact ⟨rfl, (Below.refl _ _).alloc (Nat.le_refl _) _⟩
    · have h1 : 256 < n := hn.resolve_left h0
      clear hn
      go_enter Try.func19, Try.ntmps19
      go_wp2_with fail
      refine (hl _).mono ?_
      rintro e w1 ⟨rfl, rfl⟩
      clear hl
      go_wp2
      go_ret2
      exact ⟨rfl, (Below.refl _ _).alloc (Nat.le_refl _) _⟩

end Go.Proofs.Ytojafgilpnnbiab
