/- Contracts of mac's question and Derive; of ref's Derive. -/
import Derived.Test.YtojafgilpnnbiabL5
import Derived.Laws.IdiomStrings
set_option linter.unusedVariables false
set_option linter.unusedSimpArgs false
namespace Go.Proofs.Ytojafgilpnnbiab
open Go.RowKit

/-- A string's bytes. -/
def sb (s : ByteArray) : List UInt8 := s.data.toList
theorem sb_len (s : ByteArray) : (sb s).length = s.size := by unfold sb; simp
theorem conv_sb (W : World) (s : ByteArray) : (convert 9 22 (.string s)).run Try.prog W = .ok (.slice (some ⟨W.heap.size, 0, none⟩) s.size (grownCap W s.size 0 5))
    (W.drew.alloc (.cells (bytesRow s (grownCap W s.size 0 5)) 5 ((bytesRow s (grownCap W s.size 0 5)).size, (bytesRow s (grownCap W s.size 0 5)).size + 1))) :=
  run_bytes_of_string W 9 22 5 s Try.underlying9 Try.underlying22 Try.underlying5
theorem conv_hb_sb (W : World) (s : ByteArray) (hs : s.size ≤ 65536) : ∃ cap w', (convert 9 22 (.string s)).run Try.prog W = .ok (.slice (some ⟨W.heap.size, 0, none⟩) s.size cap) w' ∧ HB w' (.slice (some ⟨W.heap.size, 0, none⟩) s.size cap) (sb s) ∧ Below W.heap.size W w' := by
  refine ⟨_, _, conv_sb W s, ?_, ((Below.refl _ _).drew).alloc (Nat.le_refl _) _⟩
  by_cases h0 : s.size = 0
  · refine .inl ⟨List.eq_nil_of_length_eq_zero (by rw [sb_len, h0]), some ⟨W.heap.size, 0, none⟩, _, by rw [h0], fun h => by cases h⟩
  · refine .inr ⟨W.heap.size, 0, _, by rw [sb_len], by rw [sb_len]; exact grownCap_ge _ _ _ _, grownCap_le_maxLen _ _ _ _ (by unfold maxLen; omega), fun i hi => ?_⟩
    have hrow : ∀ o : Obj, (W.drew.alloc o).heap[W.heap.size]? = some o := fun o => heap_alloc_new W.drew o
    rw [Nat.zero_add, cell_of_row _ W.heap.size i _ _ _ (hrow _)]
    have hi2 : i < s.data.size := by rw [sb_len] at hi; exact hi
    unfold bytesRow
    rw [Array.getElem?_append_left (by simpa using hi2)]
    simp only [Array.getElem?_map, sb, List.getD, Array.getElem?_toList, Array.getElem?_eq_getElem hi2]
    rfl

theorem HL.two (X : World) (n : Nat) (a b : Value) (la lb : List UInt8) (hn : n = X.heap.size) (ha : HB X a la) (hb : HB X b lb) : HL (X.alloc (.cells #[a, b] 22)) (.slice (some ⟨n, 0, none⟩) 2 2) [la, lb] := by
  refine .inr ⟨n, 0, 2, rfl, by simp, by decide, fun i hi => ?_⟩
  obtain ⟨u, h1, h2⟩ := two_cells X n a b la lb hn (HB.alloc ha _) (HB.alloc hb _) i hi
  refine ⟨u, by rw [Nat.zero_add]; exact h1, ?_⟩
  have : [la, lb].getD i [] = [la, lb][i] := by simp [List.getD, List.getElem?_eq_getElem hi]
  rw [← this]; exact h2

/-- What is tagged. -/
def askL (s : ByteArray) (n : Nat) : List UInt8 := W1.pack [sb s, W1.le 8 n]
theorem askL_len (s : ByteArray) (n : Nat) (hs : s.size ≤ 64) : (askL s n).length ≤ 1000 := by
  unfold askL W1.pack
  simp [W1.frame, W1.le_length, sb_len]
  omega

set_option maxHeartbeats 1000000 in
theorem question_any (s : ByteArray) (n : Nat) (w : World) (hs : s.size ≤ 64) (hn : n < 18446744073709551616) :
    Calls Try.prog 27 #[.string s, .int .u64 (n : Int)] w fun e w' => ∃ v, e = .returned v ∧ FB w.heap.size w' v (askL s n) ∧ Below w.heap.size w w' := by
  have hput := put_ok n 8 w (by decide) (by decide) hn (by simpa using hn)
  have hmay : W1.mayPack [sb s, W1.le 8 n] := ⟨by simp, fun l hl => by
    simp only [List.mem_cons, List.not_mem_nil, or_false] at hl
    rcases hl with rfl | rfl
    · rw [sb_len]; omega
    · rw [W1.le_length]; decide⟩
  have HM : Hid _ := hmay
  clear hmay
  go_enter Try.func27, Try.ntmps27
  go_wp2_with fail
  refine hput.mono ?_
  rintro e w1 ⟨rfl, hf1, hb1⟩
  obtain ⟨cap, w2, hrun, hb2, hc2⟩ := conv_hb_sb w1 s (by omega)
  have HP2 : Hid _ := HB.below hf1.hb hc2
  have HS2 : Hid _ := hb2
  have hbw2 : Below w.heap.size w w2 := hb1.trans (hc2.mono hb1.size)
  have hs2 := hbw2.size
  clear hf1 hb1 hb2 hc2 hput
  go_wp2_with fail
  refine (pack_any _ [sb s, W1.le 8 n] _ (by simp) (HL.two w2 _ _ _ _ _ rfl HS2.out HP2.out)).mono ?_
  rintro e w3 ⟨hb3, hpe⟩
  obtain ⟨v, rfl, hf⟩ := hpe.1 HM.out
  have hbw3 : Below w.heap.size w w3 := (hbw2.alloc hs2 _).trans (hb3.mono (by simp; omega))
  have HF : Hid (FB w.heap.size w3 v (askL s n)) := FB.lower hf (by simp; omega)
  clear hpe hf hb3 hrun
  go_wp2
  go_ret
  exact ⟨_, rfl, HF.out, hbw3⟩

/-- What stays while Derive runs. -/
def DS (w : World) (DL : List Value) (w' : World) : Prop :=
  w'.heap[w.heap.size]? = some (.cells DL.toArray 24 (0, 0)) ∧ (∃ Z : Array Value, Z.size = 32 ∧ w'.heap[w.heap.size + 1]? = some (.cells Z 24 (0, 0))) ∧ Below w.heap.size w w'
theorem DS.below {w a b : World} {DL : List Value} (h : DS w DL a) (hb : Below a.heap.size a b) : DS w DL b := by
  obtain ⟨h1, ⟨Z, z1, z2⟩, h3⟩ := h
  exact ⟨(hb.block _ (row_lt h1)).trans h1, ⟨Z, z1, (hb.block _ (row_lt z2)).trans z2⟩, h3.trans (hb.mono h3.size)⟩
theorem DS.set {w a : World} {DL : List Value} (h : DS w DL a) (N : Array Value) (hn : N.size = 32) : DS w DL (a.setRow (w.heap.size + 1) N) := by
  obtain ⟨h1, ⟨Z, z1, z2⟩, h3⟩ := h
  exact ⟨(setRow_other _ _ _ _ (by omega)).trans h1, ⟨N, hn, setRow_heap _ _ _ _ _ _ z2⟩, below_setRow h3 (by omega) _⟩
theorem DS.hb {w a : World} {d : List UInt8} (hd : d.length = 32) (h : DS w (d.map B8) a) : HB a (.slice (some ⟨w.heap.size, 0, none⟩) 32 32) d := HB.ofRow 32 hd.symm (by omega) h.1

set_option maxHeartbeats 4000000 in
set_option maxRecDepth 100000 in
theorem derive_ok (d : List UInt8) (s : ByteArray) (n : Nat) (w : World) (hd : d.length = 32) (h0 : ¬ s.size = 0) (hs : s.size ≤ 64) (hn : n < 18446744073709551616) :
    Calls Try.prog 15 #[.agg (d.map B8).toArray, .string s, .int .u64 (n : Int)] w fun e w' => e = .returned (.tuple #[.agg ((macL d (askL s n)).map B8).toArray, .int .i64 0]) ∧ Below w.heap.size w w' := by
  have hl := fun W => isLabel_yes s W h0 hs
  have hq := fun W => question_any s n W hs hn
  have hal := askL_len s n hs
  have htg := fun kv bv W h1 h2 => tag_any kv bv d (askL s n) W (by omega) (by omega) h1 h2
  obtain ⟨RS, hRS⟩ : ∃ RS, RS = ((macL d (askL s n)).map B8).toArray := ⟨_, rfl⟩
  rw [← hRS] at htg ⊢
  have hrs : RS.size = 32 := by rw [hRS]; simp [macL_len]
  have hri : (Try.prog.info? 24).map (·.size) = some RS.size := by rw [hrs]; kernel_rfl
  have HR1 : Hid (RS.all (·.oneCell') = true) := by show _ = _; rw [hRS]; exact B8_onea _
  have HRS : Hid _ := hrs
  have HRI : Hid _ := hri
  have hHBd := fun W h => DS.hb (w := w) (a := W) hd h
  obtain ⟨DL, hDL⟩ : ∃ DL, DL = d.map B8 := ⟨_, rfl⟩
  rw [← hDL] at hHBd ⊢
  have HHD : Hid _ := hHBd
  have hsD := fun W => sliceDig W w.heap.size
  generalize askL s n = AQ at *
  clear hRS hrs hri hDL hd hHBd h0
  go_enter Try.func15, Try.ntmps15
  go_wp2_with fail
  refine (hl _).mono ?_
  rintro e w1 ⟨rfl, hw⟩
  have HD : Hid (DS w DL w1.drew) := by
    rw [← hw]
    exact ⟨h2a _ _ _, ⟨Z32, rfl, h2b _ _ _⟩, (((Below.refl _ _).alloc (Nat.le_refl _) _).alloc (by simp) _).drew⟩
  clear hw hl
  go_wp2
  refine wp_region_held_drew (S := DS w DL) (by kernel_rfl) HD.out (fun hHeld => ?_)
  refine wpAnyH_take (i := 0) (oi := { dst := some 12, op := Go.Op.slice 24 (Go.Operand.tmp 3) none none none, type := 22, pos := _, after := #[], guard := none }) (v := .slice (some ⟨w.heap.size, 0, none⟩) 32 32) rfl (by kernel_rfl) (by kernel_rfl) (by kernel_rfl) (fun _ _ _ h => h) (Or.inl ⟨by rfl, fun w' hw' => ?_⟩) hHeld ?_
  · first | (go_simp; done) | (go_simp; rfl)
  try simp only [Act.put, List.setIfInBounds_toArray, List.set_cons_zero, List.set_cons_succ]
  refine wpAnyH_take (i := 1) (oi := { dst := some 13, op := Go.Op.move (Go.Operand.tmp 1), type := 9, pos := _, after := #[], guard := none }) (v := .string s) rfl (by kernel_rfl) (by kernel_rfl) (by kernel_rfl) (fun _ _ _ h => h) (Or.inl ⟨by rfl, fun w' hw' => ?_⟩) hHeld ?_
  · first | (go_simp; done) | (go_simp; rfl)
  try simp only [Act.put, List.setIfInBounds_toArray, List.set_cons_zero, List.set_cons_succ]
  refine wpAnyH_take (i := 2) (oi := { dst := some 14, op := Go.Op.move (Go.Operand.tmp 2), type := 32, pos := _, after := #[], guard := none }) (v := .int .u64 (n : Int)) rfl (by kernel_rfl) (by kernel_rfl) (by kernel_rfl) (fun _ _ _ h => h) (Or.inl ⟨by rfl, fun w' hw' => ?_⟩) hHeld ?_
  · first | (go_simp; done) | (go_simp; rfl)
  try simp only [Act.put, List.setIfInBounds_toArray, List.set_cons_zero, List.set_cons_succ]
  refine wpAnyH_ready (rs := [3]) (by kernel_rfl) (by simp) ?_
  refine AllReadyH.cons (o := { dst := some 15, op := Go.Op.call { callee := Go.Callee.value (Go.Operand.func 27), args := #[Go.Operand.tmp 13, Go.Operand.tmp 14], argTypes := #[9, 32] }, type := 22, pos := _, after := #[{ on := 1, ground := Go.Ground.data }, { on := 2, ground := Go.Ground.data }], guard := none }) rfl (fun K hK => ?_) AllReadyH.nil
  rw [if_pos (by rfl)]
  go_wp2_with fail
  refine (hq _).mono ?_
  rintro e w2 ⟨v, rfl, hf, hb2⟩
  have hHeld2 := DS.below hHeld hb2
  have HQ : Hid _ := hf.hb
  clear hb2 hf
  refine hK.out _ _ hHeld2 (fun _ => ?_)
  clear hK K
  try simp only [Act.put, List.setIfInBounds_toArray, List.set_cons_zero, List.set_cons_succ]
  refine wpAnyH_ready (rs := [4]) (by kernel_rfl) (by simp) ?_
  refine AllReadyH.cons (o := { dst := some 16, op := Go.Op.call { callee := Go.Callee.value (Go.Operand.func 9), args := #[Go.Operand.tmp 12, Go.Operand.tmp 15], argTypes := #[22, 22] }, type := 24, pos := _, after := #[{ on := 0, ground := Go.Ground.data }, { on := 3, ground := Go.Ground.data }, { on := 3, ground := Go.Ground.chain }], guard := none }) rfl (fun K hK => ?_) AllReadyH.nil
  rw [if_pos (by rfl)]
  go_wp2_with fail
  refine (htg _ _ _ (HHD.out _ hHeld2) HQ.out).mono ?_
  rintro e w3 ⟨rfl, hb3⟩
  have hHeld3 := DS.below hHeld2 hb3
  clear hb3
  refine hK.out _ _ hHeld3 (fun _ => ?_)
  clear hK K
  try simp only [Act.put, List.setIfInBounds_toArray, List.set_cons_zero, List.set_cons_succ]
  refine wpAnyH_ready (rs := [5]) (by kernel_rfl) (by simp) ?_
  refine AllReadyH.cons (o := { dst := none, op := Go.Op.store 24 (Go.Operand.tmp 6) (Go.Operand.tmp 16), type := 0, pos := _, after := #[{ on := 4, ground := Go.Ground.data }, { on := 4, ground := Go.Ground.chain }, { on := 0, ground := Go.Ground.phase }, { on := 1, ground := Go.Ground.phase }, { on := 2, ground := Go.Ground.phase }, { on := 3, ground := Go.Ground.phase }, { on := 4, ground := Go.Ground.phase }], guard := none }) rfl (fun K hK => ?_) AllReadyH.nil
  rw [if_pos (by rfl)]
  obtain ⟨Z, hZ32, hZ⟩ := hHeld3.2.1
  refine wp_store_row 24 _ _ rfl (w.heap.size + 1) RS rfl rfl 24 _ hZ HRI.out (hZ32.trans HRS.out.symm) HR1.out ?_
  have hHeld4 := DS.set hHeld3 RS HRS.out
  refine hK.out _ _ hHeld4 (fun _ => ?_)
  clear hK K
  try simp only [Act.put, List.setIfInBounds_toArray, List.set_cons_zero, List.set_cons_succ]
  have hHeld := hHeld4
  refine wpAnyH_take (i := 6) (oi := { dst := some 7, op := Go.Op.assign (Go.Operand.const (Go.Value.int Go.IntKind.i64 0)), type := 33, pos := _, after := #[{ on := 5, ground := Go.Ground.chain }, { on := 0, ground := Go.Ground.phase }, { on := 1, ground := Go.Ground.phase }, { on := 2, ground := Go.Ground.phase }, { on := 3, ground := Go.Ground.phase }, { on := 4, ground := Go.Ground.phase }, { on := 5, ground := Go.Ground.phase }], guard := none }) (v := .int .i64 0) rfl (by kernel_rfl) (by kernel_rfl) (by kernel_rfl) (fun _ _ _ h => h) (Or.inl ⟨by rfl, fun w' hw' => ?_⟩) hHeld ?_
  · first | (go_simp; done) | (go_simp; rfl)
  try simp only [Act.put, List.setIfInBounds_toArray, List.set_cons_zero, List.set_cons_succ]
  refine wpAnyH_done (by kernel_rfl) ?_ _
  have HZ : Hid _ := setRow_heap _ _ _ RS _ _ hZ
  have HBB : Hid _ := hHeld4.2.2
  clear hHeld hHeld2 hHeld3 hHeld4 hZ
  go_wp2
  refine bodyPost_ret (v := .tuple #[.agg RS, .int .i64 0]) ?_ rfl ⟨rfl, HBB.out⟩
  exact results_dig2 Try.results15 _ _ (w.heap.size + 1) 24 _ (0, 0) _ rfl rfl HZ.out HRI.out

/-- A string's bytes made, as one step. -/
theorem wp_conv {o : Oper} {a : Act} {K : Act → World → Prop} {Q : Exit → Act → World → Prop} {W : World} (x : Operand) (s : ByteArray) (ho : o.op = .convert 9 22 x) (hx : a.eval x = .string s) (hs : s.size ≤ 65536)
    (h : ∀ cap w', HB w' (.slice (some ⟨W.heap.size, 0, none⟩) s.size cap) (sb s) → Below W.heap.size W w' → K (a.put o.dst (.slice (some ⟨W.heap.size, 0, none⟩) s.size cap)) w') : o.wp Try.prog a W K Q := by
  obtain ⟨cap, w', hrun, h1, h2⟩ := conv_hb_sb W s hs
  unfold Oper.wp
  simp [execOp, ho, hx, hrun, Result.andThen]
  exact h cap w' h1 h2

theorem pack2_cells (X : World) (n : Nat) (a b : Value) (la lb : List UInt8) (hn : n = X.heap.size) (ha : HB X a la) (hb : HB X b lb) : ∀ i, (h : i < [la, lb].length) → ∃ u, (X.alloc (.cells #[a, b] 22)).cell? ⟨n, 0 + i, none⟩ = some u ∧ HB (X.alloc (.cells #[a, b] 22)) u [la, lb][i] := fun i hi => by
  obtain ⟨u, h1, h2⟩ := two_cells X n a b la lb hn (HB.alloc ha _) (HB.alloc hb _) i hi
  refine ⟨u, by rw [Nat.zero_add]; exact h1, ?_⟩
  have : [la, lb].getD i [] = [la, lb][i] := by simp [List.getD, List.getElem?_eq_getElem hi]
  rw [← this]; exact h2


set_option maxHeartbeats 4000000 in
set_option maxRecDepth 100000 in
theorem refDerive_any (d : List UInt8) (s : ByteArray) (n : Nat) (w : World) (hd : d.length = 32) (hs : s.size ≤ 64) (hn : n < 18446744073709551616) :
    Calls Try.prog 18 #[.agg (d.map B8).toArray, .string s, .int .u64 (n : Int)] w fun e w' => e = .returned (.agg ((macL d (askL s n)).map B8).toArray) ∧ Below w.heap.size w w' := by
  have hp := fun W => refPut_any n 8 W hn (by decide)
  have hal := askL_len s n hs
  have htg := fun kv bv W h1 h2 => refTag_any kv bv d (askL s n) W (by omega) (by omega) h1 h2
  obtain ⟨RS, hRS⟩ : ∃ RS, RS = ((macL d (askL s n)).map B8).toArray := ⟨_, rfl⟩
  rw [← hRS] at htg ⊢
  have hrs : RS.size = 32 := by rw [hRS]; simp [macL_len]
  have hri : (Try.prog.info? 24).map (·.size) = some RS.size := by rw [hrs]; kernel_rfl
  have HR1 : Hid (RS.all (·.oneCell') = true) := by show _ = _; rw [hRS]; exact B8_onea _
  have HRS : Hid _ := hrs
  have HRI : Hid _ := hri
  have hHBd := fun W h => DS.hb (w := w) (a := W) hd h
  obtain ⟨DL, hDL⟩ : ∃ DL, DL = d.map B8 := ⟨_, rfl⟩
  rw [← hDL] at hHBd ⊢
  have HHD : Hid _ := hHBd
  have hsD := fun W => sliceDig W w.heap.size
  have HML : Hid (∀ l ∈ [sb s, W1.le 8 n], l.length ≤ 65536) := fun l hl => by
    simp only [List.mem_cons, List.not_mem_nil, or_false] at hl
    rcases hl with rfl | rfl
    · rw [sb_len]; omega
    · rw [W1.le_length]; decide
  obtain ⟨AQ, hAQ⟩ : ∃ AQ, AQ = askL s n := ⟨_, rfl⟩
  rw [← hAQ] at htg hal
  have HAQ : Hid (AQ = W1.pack [sb s, W1.le 8 n]) := hAQ
  clear hRS hrs hri hDL hd hHBd hAQ
  go_enter Try.func18, Try.ntmps18
  go_wp2
  refine wp_region_held_drew (S := DS w DL) (by kernel_rfl) ⟨h2a _ _ _, ⟨Z32, rfl, h2b _ _ _⟩, (((Below.refl _ _).alloc (Nat.le_refl _) _).alloc (by simp) _).drew⟩ (fun hHeld => ?_)
  refine wpAnyH_take (i := 0) (oi := { dst := some 7, op := Go.Op.slice 24 (Go.Operand.tmp 3) none none none, type := 22, pos := _, after := #[], guard := none }) (v := .slice (some ⟨w.heap.size, 0, none⟩) 32 32) rfl (by kernel_rfl) (by kernel_rfl) (by kernel_rfl) (fun _ _ _ h => h) (Or.inl ⟨by rfl, fun w' hw' => ?_⟩) hHeld ?_
  · first | (go_simp; done) | (go_simp; rfl)
  try simp only [Act.put, List.setIfInBounds_toArray, List.set_cons_zero, List.set_cons_succ]
  refine wpAnyH_take (i := 1) (oi := { dst := some 8, op := Go.Op.move (Go.Operand.tmp 1), type := 9, pos := _, after := #[], guard := none }) (v := .string s) rfl (by kernel_rfl) (by kernel_rfl) (by kernel_rfl) (fun _ _ _ h => h) (Or.inl ⟨by rfl, fun w' hw' => ?_⟩) hHeld ?_
  · first | (go_simp; done) | (go_simp; rfl)
  try simp only [Act.put, List.setIfInBounds_toArray, List.set_cons_zero, List.set_cons_succ]
  refine wpAnyH_take (i := 3) (oi := { dst := some 10, op := Go.Op.move (Go.Operand.tmp 2), type := 32, pos := _, after := #[], guard := none }) (v := .int .u64 (n : Int)) rfl (by kernel_rfl) (by kernel_rfl) (by kernel_rfl) (fun _ _ _ h => h) (Or.inl ⟨by rfl, fun w' hw' => ?_⟩) hHeld ?_
  · first | (go_simp; done) | (go_simp; rfl)
  try simp only [Act.put, List.setIfInBounds_toArray, List.set_cons_zero, List.set_cons_succ]
  refine wpAnyH_ready (rs := [2, 4]) (by kernel_rfl) (by simp) ?_
  refine AllReadyH.cons (o := { dst := some 9, op := Go.Op.convert 9 22 (Go.Operand.tmp 8), type := 22, pos := _, after := #[{ on := 1, ground := Go.Ground.data }], guard := none }) rfl (fun K hK => ?_) (AllReadyH.cons (o := { dst := some 11, op := Go.Op.call { callee := Go.Callee.value (Go.Operand.func 29), args := #[Go.Operand.tmp 10, Go.Operand.const (Go.Value.int Go.IntKind.i64 8)], argTypes := #[32, 3] }, type := 22, pos := _, after := #[{ on := 3, ground := Go.Ground.data }], guard := none }) rfl (fun K hK => ?_) AllReadyH.nil)
  all_goals rw [if_pos (by rfl)]
  · refine wp_conv (.tmp 8) s rfl rfl (by omega) ?_
    intro cap w2 hcv hb2
    have hHeld2 := DS.below hHeld hb2
    have hsz2 : ∀ a b : Obj, ((w.alloc a).alloc b).drew.heap.size = w.heap.size + 1 + 1 := fun a b => by simp
    rw [hsz2] at hcv
    have HC0 : Hid _ := hcv
    clear hb2 hcv
    refine hK.out _ _ hHeld2 (fun _ => ?_)
    clear hK K
    try simp only [Act.put, List.setIfInBounds_toArray, List.set_cons_zero, List.set_cons_succ]
    refine wpAnyH_ready (rs := [4]) (by kernel_rfl) (by simp) ?_
    refine AllReadyH.cons (o := { dst := some 11, op := Go.Op.call { callee := Go.Callee.value (Go.Operand.func 29), args := #[Go.Operand.tmp 10, Go.Operand.const (Go.Value.int Go.IntKind.i64 8)], argTypes := #[32, 3] }, type := 22, pos := _, after := #[{ on := 3, ground := Go.Ground.data }], guard := none }) rfl (fun K hK => ?_) AllReadyH.nil
    rw [if_pos (by rfl)]
    go_wp2_with fail
    refine (hp _).mono ?_
    rintro e w3 ⟨vp, rfl, hfp, hb3⟩
    obtain ⟨p8, c8, e8⟩ := hfp.form'
    rw [W1.le_length] at e8
    subst e8
    have hHeld3 := DS.below hHeld2 hb3
    have HVP : Hid _ := hfp.hb
    have HCV : Hid _ := HB.below HC0.out hb3
    clear hb3 hfp HC0
    refine hK.out _ _ hHeld3 (fun _ => ?_)
    clear hK K
    try simp only [Act.put, List.setIfInBounds_toArray, List.set_cons_zero, List.set_cons_succ]
    refine wpAnyH_ready (rs := [5]) (by kernel_rfl) (by simp) ?_
    refine AllReadyH.cons (o := { dst := some 12, op := Go.Op.buildSlice 53 2 #[(0, Go.Operand.tmp 9), (1, Go.Operand.tmp 11)], type := 53, pos := _, after := #[{ on := 2, ground := Go.Ground.data }, { on := 4, ground := Go.Ground.data }], guard := none }) rfl (fun K hK => ?_) AllReadyH.nil
    rw [if_pos (by rfl)]
    go_wp2_with fail
    have hHeldB := DS.below hHeld3 ((Below.refl w3.heap.size w3).alloc (Nat.le_refl _) (.cells #[.slice (some ⟨w.heap.size + 1 + 1, 0, none⟩) s.size cap, .slice p8 8 c8] 22))
    refine hK.out _ _ hHeldB (fun _ => ?_)
    clear hK K
    try simp only [Act.put, List.setIfInBounds_toArray, List.set_cons_zero, List.set_cons_succ]
    refine wpAnyH_ready (rs := [6]) (by kernel_rfl) (by simp) ?_
    refine AllReadyH.cons (o := { dst := some 13, op := Go.Op.call { callee := Go.Callee.value (Go.Operand.func 28), args := #[Go.Operand.tmp 12], argTypes := #[53] }, type := 22, pos := _, after := #[{ on := 5, ground := Go.Ground.data }, { on := 4, ground := Go.Ground.chain }], guard := none }) rfl (fun K hK => ?_) AllReadyH.nil
    rw [if_pos (by rfl)]
    go_wp2_with fail
    refine (refPack_any _ 0 _ [sb s, W1.le 8 n] _ (by simp) HML.out (pack2_cells w3 _ _ _ _ _ rfl HCV.out HVP.out)).mono ?_
    rintro e w6 ⟨vq, rfl, hfq, hb6⟩
    have hHeld6 := DS.below hHeldB hb6
    have HQ : Hid (HB w6 vq AQ) := by rw [HAQ.out]; exact hfq.hb
    clear hb6 hfq
    refine hK.out _ _ hHeld6 (fun _ => ?_)
    clear hK K
    try simp only [Act.put, List.setIfInBounds_toArray, List.set_cons_zero, List.set_cons_succ]
    refine wpAnyH_ready (rs := [7]) (by kernel_rfl) (by simp) ?_
    refine AllReadyH.cons (o := { dst := some 14, op := Go.Op.call { callee := Go.Callee.value (Go.Operand.func 10), args := #[Go.Operand.tmp 7, Go.Operand.tmp 13], argTypes := #[22, 22] }, type := 24, pos := _, after := #[{ on := 0, ground := Go.Ground.data }, { on := 6, ground := Go.Ground.data }, { on := 6, ground := Go.Ground.chain }], guard := none }) rfl (fun K hK => ?_) AllReadyH.nil
    rw [if_pos (by rfl)]
    go_wp2_with fail
    refine (htg _ _ _ (HHD.out _ hHeld6) HQ.out).mono ?_
    rintro e w7 ⟨rfl, hb7⟩
    have hHeld7 := DS.below hHeld6 hb7
    clear hb7
    refine hK.out _ _ hHeld7 (fun _ => ?_)
    clear hK K
    try simp only [Act.put, List.setIfInBounds_toArray, List.set_cons_zero, List.set_cons_succ]
    refine wpAnyH_ready (rs := [8]) (by kernel_rfl) (by simp) ?_
    refine AllReadyH.cons (o := { dst := none, op := Go.Op.store 24 (Go.Operand.tmp 6) (Go.Operand.tmp 14), type := 0, pos := _, after := #[{ on := 7, ground := Go.Ground.data }, { on := 7, ground := Go.Ground.chain }, { on := 0, ground := Go.Ground.phase }, { on := 1, ground := Go.Ground.phase }, { on := 2, ground := Go.Ground.phase }, { on := 3, ground := Go.Ground.phase }, { on := 4, ground := Go.Ground.phase }, { on := 5, ground := Go.Ground.phase }, { on := 6, ground := Go.Ground.phase }, { on := 7, ground := Go.Ground.phase }], guard := none }) rfl (fun K hK => ?_) AllReadyH.nil
    rw [if_pos (by rfl)]
    obtain ⟨Z, hZ32, hZ⟩ := hHeld7.2.1
    refine wp_store_row 24 _ _ rfl (w.heap.size + 1) RS rfl rfl 24 _ hZ HRI.out (hZ32.trans HRS.out.symm) HR1.out ?_
    have hHeld8 := DS.set hHeld7 RS HRS.out
    refine hK.out _ _ hHeld8 (fun _ => ?_)
    clear hK K
    try simp only [Act.put, List.setIfInBounds_toArray, List.set_cons_zero, List.set_cons_succ]
    refine wpAnyH_done (by kernel_rfl) ?_ _
    have HZ : Hid _ := setRow_heap _ _ _ RS _ _ hZ
    have HBB : Hid _ := hHeld8.2.2
    clear hHeld hHeldB hHeld6 hHeld7 hHeld8 hZ
    go_wp2
    refine bodyPost_ret (v := .agg RS) ?_ rfl ⟨rfl, HBB.out⟩
    exact results_cell_row Try.results18 _ _ (w.heap.size + 1) 24 _ (0, 0) _ rfl HZ.out Try.underlying24 rfl HRI.out
  · go_wp2_with fail
    refine (hp _).mono ?_
    rintro e w2 ⟨vp, rfl, hfp, hb2⟩
    obtain ⟨p8, c8, e8⟩ := hfp.form'
    rw [W1.le_length] at e8
    subst e8
    have hHeld2 := DS.below hHeld hb2
    have HVP0 : Hid _ := hfp.hb
    clear hb2 hfp
    refine hK.out _ _ hHeld2 (fun _ => ?_)
    clear hK K
    try simp only [Act.put, List.setIfInBounds_toArray, List.set_cons_zero, List.set_cons_succ]
    refine wpAnyH_ready (rs := [2]) (by kernel_rfl) (by simp) ?_
    refine AllReadyH.cons (o := { dst := some 9, op := Go.Op.convert 9 22 (Go.Operand.tmp 8), type := 22, pos := _, after := #[{ on := 1, ground := Go.Ground.data }], guard := none }) rfl (fun K hK => ?_) AllReadyH.nil
    rw [if_pos (by rfl)]
    refine wp_conv (.tmp 8) s rfl rfl (by omega) ?_
    intro cap w3 hcv hb3
    have hHeld3 := DS.below hHeld2 hb3
    have HCV : Hid _ := hcv
    have HVP : Hid _ := HB.below HVP0.out hb3
    clear hb3 hcv HVP0
    refine hK.out _ _ hHeld3 (fun _ => ?_)
    clear hK K
    try simp only [Act.put, List.setIfInBounds_toArray, List.set_cons_zero, List.set_cons_succ]
    refine wpAnyH_ready (rs := [5]) (by kernel_rfl) (by simp) ?_
    refine AllReadyH.cons (o := { dst := some 12, op := Go.Op.buildSlice 53 2 #[(0, Go.Operand.tmp 9), (1, Go.Operand.tmp 11)], type := 53, pos := _, after := #[{ on := 2, ground := Go.Ground.data }, { on := 4, ground := Go.Ground.data }], guard := none }) rfl (fun K hK => ?_) AllReadyH.nil
    rw [if_pos (by rfl)]
    go_wp2_with fail
    have hHeldB := DS.below hHeld3 ((Below.refl w3.heap.size w3).alloc (Nat.le_refl _) (.cells #[.slice (some ⟨w2.heap.size, 0, none⟩) s.size cap, .slice p8 8 c8] 22))
    refine hK.out _ _ hHeldB (fun _ => ?_)
    clear hK K
    try simp only [Act.put, List.setIfInBounds_toArray, List.set_cons_zero, List.set_cons_succ]
    refine wpAnyH_ready (rs := [6]) (by kernel_rfl) (by simp) ?_
    refine AllReadyH.cons (o := { dst := some 13, op := Go.Op.call { callee := Go.Callee.value (Go.Operand.func 28), args := #[Go.Operand.tmp 12], argTypes := #[53] }, type := 22, pos := _, after := #[{ on := 5, ground := Go.Ground.data }, { on := 4, ground := Go.Ground.chain }], guard := none }) rfl (fun K hK => ?_) AllReadyH.nil
    rw [if_pos (by rfl)]
    go_wp2_with fail
    refine (refPack_any _ 0 _ [sb s, W1.le 8 n] _ (by simp) HML.out (pack2_cells w3 _ _ _ _ _ rfl HCV.out HVP.out)).mono ?_
    rintro e w6 ⟨vq, rfl, hfq, hb6⟩
    have hHeld6 := DS.below hHeldB hb6
    have HQ : Hid (HB w6 vq AQ) := by rw [HAQ.out]; exact hfq.hb
    clear hb6 hfq
    refine hK.out _ _ hHeld6 (fun _ => ?_)
    clear hK K
    try simp only [Act.put, List.setIfInBounds_toArray, List.set_cons_zero, List.set_cons_succ]
    refine wpAnyH_ready (rs := [7]) (by kernel_rfl) (by simp) ?_
    refine AllReadyH.cons (o := { dst := some 14, op := Go.Op.call { callee := Go.Callee.value (Go.Operand.func 10), args := #[Go.Operand.tmp 7, Go.Operand.tmp 13], argTypes := #[22, 22] }, type := 24, pos := _, after := #[{ on := 0, ground := Go.Ground.data }, { on := 6, ground := Go.Ground.data }, { on := 6, ground := Go.Ground.chain }], guard := none }) rfl (fun K hK => ?_) AllReadyH.nil
    rw [if_pos (by rfl)]
    go_wp2_with fail
    refine (htg _ _ _ (HHD.out _ hHeld6) HQ.out).mono ?_
    rintro e w7 ⟨rfl, hb7⟩
    have hHeld7 := DS.below hHeld6 hb7
    clear hb7
    refine hK.out _ _ hHeld7 (fun _ => ?_)
    clear hK K
    try simp only [Act.put, List.setIfInBounds_toArray, List.set_cons_zero, List.set_cons_succ]
    refine wpAnyH_ready (rs := [8]) (by kernel_rfl) (by simp) ?_
    refine AllReadyH.cons (o := { dst := none, op := Go.Op.store 24 (Go.Operand.tmp 6) (Go.Operand.tmp 14), type := 0, pos := _, after := #[{ on := 7, ground := Go.Ground.data }, { on := 7, ground := Go.Ground.chain }, { on := 0, ground := Go.Ground.phase }, { on := 1, ground := Go.Ground.phase }, { on := 2, ground := Go.Ground.phase }, { on := 3, ground := Go.Ground.phase }, { on := 4, ground := Go.Ground.phase }, { on := 5, ground := Go.Ground.phase }, { on := 6, ground := Go.Ground.phase }, { on := 7, ground := Go.Ground.phase }], guard := none }) rfl (fun K hK => ?_) AllReadyH.nil
    rw [if_pos (by rfl)]
    obtain ⟨Z, hZ32, hZ⟩ := hHeld7.2.1
    refine wp_store_row 24 _ _ rfl (w.heap.size + 1) RS rfl rfl 24 _ hZ HRI.out (hZ32.trans HRS.out.symm) HR1.out ?_
    have hHeld8 := DS.set hHeld7 RS HRS.out
    refine hK.out _ _ hHeld8 (fun _ => ?_)
    clear hK K
    try simp only [Act.put, List.setIfInBounds_toArray, List.set_cons_zero, List.set_cons_succ]
    refine wpAnyH_done (by kernel_rfl) ?_ _
    have HZ : Hid _ := setRow_heap _ _ _ RS _ _ hZ
    have HBB : Hid _ := hHeld8.2.2
    clear hHeld hHeldB hHeld6 hHeld7 hHeld8 hZ
    go_wp2
    refine bodyPost_ret (v := .agg RS) ?_ rfl ⟨rfl, HBB.out⟩
    exact results_cell_row Try.results18 _ _ (w.heap.size + 1) 24 _ (0, 0) _ rfl HZ.out Try.underlying24 rfl HRI.out

end Go.Proofs.Ytojafgilpnnbiab
