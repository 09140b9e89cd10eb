/- Contract of mac's Keys. -/
import Derived.Test.YtojafgilpnnbiabM5
import Derived.Great.BuildSlice
import Derived.Great.FillDense
import Derived.OwnWalk
set_option linter.unusedVariables false
set_option linter.unusedSimpArgs false
namespace Go.Proofs.Ytojafgilpnnbiab
open Go.RowKit

theorem Try.infoDig : (Try.prog.info? 24).map (fun i => (i.zero, i.size, i.bytes)) = some (some (.agg Z32), 32, 32) := by kernel_rfl
theorem fill1 (RS cells : Array Value) (h : RS.size = 32) (hc : cells.size = 32) : Instr.fill (fun i => some (i * 32, 32)) cells [(0, .agg RS)] = some RS := by
  have := Go.Great.fill_whole (s := 32) (by decide) [.agg RS] cells (fun v hv => by simp only [List.mem_cons, List.not_mem_nil, or_false] at hv; subst hv; exact h) (by simp [hc])
  simpa [Value.cells] using this

/-- Digests in own new memory. -/
def OD (base : Nat) (w : World) (v : Value) (n : Nat) (xs : List Value) : Prop := w.ownsRow base 24 32 v n xs
theorem OD.below {base : Nat} {w w' : World} {v : Value} {n : Nat} {xs : List Value} (h : OD base w v n xs) (hb : Below w.heap.size w w') : OD base w' v n xs := by
  obtain ⟨h1, h2⟩ := h
  refine ⟨h1, ?_⟩
  rcases h2 with h2 | ⟨g, cap, cur, hv, hg, hh, r⟩
  · exact .inl h2
  · exact .inr ⟨g, cap, cur, hv, hg, by rw [hb.block g (row_lt hh)]; exact hh, r⟩
theorem OD.ge {base : Nat} {w : World} {v : Value} {n : Nat} {xs : List Value} (h : OD base w v n xs) : ∀ k, v.ownBlock = some k → base ≤ k ∧ k < w.heap.size := fun k hk => by
  rcases h.2 with ⟨h1, _⟩ | ⟨g, cap, cur, h1, h2, h3, _⟩
  · rw [h1] at hk; cases hk
  · rw [h1] at hk
    simp only [Value.ownBlock, Option.some.injEq] at hk
    subst hk
    exact ⟨h2, row_lt h3⟩
/-- The keys' cells. -/
def keyCells (d : List UInt8) (s : ByteArray) (k : Nat) : List Value := (List.range k).flatMap fun i => (macL d (askL s i)).map B8
theorem keyCells_succ (d : List UInt8) (s : ByteArray) (k : Nat) : keyCells d s (k + 1) = keyCells d s k ++ (macL d (askL s k)).map B8 := by
  unfold keyCells
  rw [List.range_succ, List.flatMap_append]
  simp

/-- What stays while Keys runs. -/
def KS (w : World) (DL : List Value) (w' : World) : Prop := w'.heap[w.heap.size]? = some (.cells DL.toArray 24 (0, 0)) ∧ Below w.heap.size w w'
theorem KS.below {w a b : World} {DL : List Value} (h : KS w DL a) (hb : Below a.heap.size a b) : KS w DL b := ⟨(hb.block _ (row_lt h.1)).trans h.1, h.2.trans (hb.mono h.2.size)⟩
theorem KS.grown {w a b : World} {DL : List Value} {row : Option Nat} (h : KS w DL a) (hg : a.grownBy b row) (hr : ∀ k, row = some k → w.heap.size + 1 ≤ k) : KS w DL b :=
  ⟨(hg.block _ (row_lt h.1) (fun e => by have := hr _ e.symm; omega)).trans h.1, h.2.grown hg h.2.size (fun k hk => by have := hr k hk; omega)⟩

set_option maxHeartbeats 4000000 in
set_option maxRecDepth 100000 in
theorem keys_ok (d : List UInt8) (s : ByteArray) (n : Nat) (w : World) (hd : d.length = 32) (h0 : ¬ s.size = 0) (hs : s.size ≤ 64) (hn : n ≤ 256) :
    Calls Try.prog 19 #[.agg (d.map B8).toArray, .string s, .int .i64 (n : Int)] w fun e w' => ∃ v, e = .returned (.tuple #[v, .int .i64 0]) ∧ OD (w.heap.size + 1) w' v n (keyCells d s n) ∧ Below w.heap.size w w' := by
  obtain ⟨i0, hi, hz0, hz1, hz2⟩ := info_parts Try.infoDig
  have hl := fun W => isLabel_yes s W h0 hs
  have hq := fun k W hk => question_any s k W hs hk
  have htg := fun kv bv k W h1 h2 => tag_any kv bv d (askL s k) W (by omega) (Nat.le_trans (askL_len s k hs) (by decide)) h1 h2
  have HHD : Hid (∀ W, KS w (d.map B8) W → HB W (.slice (some ⟨w.heap.size, 0, none⟩) 32 32) d) := fun W h => HB.ofRow 32 hd.symm (by omega) h.1
  have hsD := fun W => sliceDig W w.heap.size
  obtain ⟨DL, hDL⟩ : ∃ DL, DL = d.map B8 := ⟨_, rfl⟩
  rw [← hDL] at HHD ⊢
  have HI : Hid _ := hi
  have HZ0 : Hid _ := hz0
  have HZ1 : Hid _ := hz1
  have HZ2 : Hid _ := hz2
  have hn0 : ¬ (n : Int) < 0 := by omega
  have hn1 : ¬ (256 : Int) < (n : Int) := by omega
  have HKC : Hid _ := fun k => keyCells_succ d s k
  have HML : Hid (∀ k, (macL d (askL s k)).length = 32) := fun k => macL_len _ _
  generalize hKCe : keyCells d s = KC at *
  have HK0 : Hid (KC 0 = []) := by show _ = _; rw [← hKCe]; rfl
  clear hDL hi hz0 hz1 hz2 hKCe
  go_enter Try.func19, Try.ntmps19
  go_wp2_with fail
  refine (hl _).mono ?_
  rintro e wx ⟨rfl, rfl⟩
  clear hl
  go_wp2_with (at_make; refine wpList_make_own _ rfl _ _ 40 rfl (w.heap.size + 1) 24 i0 (.agg Z32) 32 Try.underlying40 HI.out HZ0.out HZ1.out _ _ _ n rfl rfl rfl (by rw [HZ2.out]; omega) (by unfold maxLen; omega) (by simp) ?_; intro w1 hown1 hgr1)
  have hk1 : KS w DL w1 := ⟨(hgr1.block _ (by simp) (fun e => by cases e)).trans (heap_alloc_new _ _), ((Below.refl _ _).alloc (Nat.le_refl _) _).grown hgr1 (by simp) (fun k hk => by cases hk)⟩
  have HO1 : Hid (OD (w.heap.size + 1) w1 (.slice (some ⟨w.heap.size + 1, 0, none⟩) 0 n) 0 (KC 0)) := by
    rw [HK0.out]
    have e : (w.alloc (.cells DL.toArray 24)).heap.size = w.heap.size + 1 := by simp
    rw [e] at hown1
    exact hown1
  have HK1 : Hid _ := hk1
  clear hown1 hgr1 hk1
  go_loopw [8, 24] (fun v i wr => ∃ k : Nat, k ≤ n ∧ i = .int .i64 k ∧ OD (w.heap.size + 1) wr v k (KC k) ∧ KS w DL wr) (fun _ i _ => n - (intOf i).toNat)
  case atStart => exact ⟨0, Nat.zero_le _, rfl, HO1.out, HK1.out⟩
  case round =>
    obtain ⟨k, hk, rfl, hown, hks⟩ := hrel
    by_cases hlt : k < n
    · have hq' := fun W => hq k W (by omega)
      have htg' := fun kv bv W h1 h2 => htg kv bv k W h1 h2
      have hml := HML.out k
      obtain ⟨RS, hRS⟩ : ∃ RS, RS = ((macL d (askL s k)).map B8).toArray := ⟨_, rfl⟩
      rw [← hRS] at htg'
      have hrs : RS.size = 32 := by rw [hRS]; simp [hml]
      have hr1 : ∀ u ∈ RS.toList, u.oneCell' = true := by rw [hRS]; exact B8_one _
      have HKS : Hid (KC (k + 1) = KC k ++ RS.toList) := by show _ = _; rw [HKC.out k, hRS]
      have HRS : Hid _ := hrs
      have HR1 : Hid _ := hr1
      have HO : Hid _ := hown
      have HKK : Hid (KS w DL wr.drew) := ⟨by rw [heap_drew]; exact hks.1, hks.2.drew⟩
      have hwk : IntKind.u64.wrap (k : Int) = (k : Int) := by rw [IntKind.wrap_u64]; omega
      generalize askL s k = AQ at *
      clear hml hRS hrs hr1 hown hks hq htg
      go_wp2
      refine wp_region_held_drew (S := KS w DL) (by kernel_rfl) HKK.out (fun hHeld => ?_)
      refine wpAnyH_take (i := 0) (oi := { dst := some 27, op := Go.Op.move (Go.Operand.tmp 8), type := 40, pos := _, after := #[], guard := none }) (v := u8) rfl (by kernel_rfl) (by kernel_rfl) (by kernel_rfl) (fun _ _ _ h => h) (Or.inl ⟨by rfl, fun w' hw' => ?_⟩) hHeld ?_
      · first | (go_simp; done) | (go_simp; rfl)
      try simp only [Act.put, List.setIfInBounds_toArray, List.set_cons_zero, List.set_cons_succ]
      refine wpAnyH_take (i := 1) (oi := { dst := some 28, op := Go.Op.slice 24 (Go.Operand.tmp 3) none none none, type := 22, pos := _, after := #[], guard := none }) (v := .slice (some ⟨w.heap.size, 0, none⟩) 32 32) rfl (by kernel_rfl) (by kernel_rfl) (by kernel_rfl) (fun _ _ _ h => h) (Or.inl ⟨by rfl, fun w' hw' => ?_⟩) hHeld ?_
      · first | (go_simp; done) | (go_simp; rfl)
      try simp only [Act.put, List.setIfInBounds_toArray, List.set_cons_zero, List.set_cons_succ]
      refine wpAnyH_take (i := 2) (oi := { dst := some 29, op := Go.Op.move (Go.Operand.tmp 1), type := 9, pos := _, after := #[], guard := none }) (v := .string s) rfl (by kernel_rfl) (by kernel_rfl) (by kernel_rfl) (fun _ _ _ h => h) (Or.inl ⟨by rfl, fun w' hw' => ?_⟩) hHeld ?_
      · first | (go_simp; done) | (go_simp; rfl)
      try simp only [Act.put, List.setIfInBounds_toArray, List.set_cons_zero, List.set_cons_succ]
      refine wpAnyH_take (i := 3) (oi := { dst := some 30, op := Go.Op.move (Go.Operand.tmp 9), type := 3, pos := _, after := #[], guard := none }) (v := .int .i64 (k : Int)) rfl (by kernel_rfl) (by kernel_rfl) (by kernel_rfl) (fun _ _ _ h => h) (Or.inl ⟨by rfl, fun w' hw' => ?_⟩) hHeld ?_
      · first | (go_simp; done) | (go_simp; rfl)
      try simp only [Act.put, List.setIfInBounds_toArray, List.set_cons_zero, List.set_cons_succ]
      refine wpAnyH_take (i := 4) (oi := { dst := some 31, op := Go.Op.convert 3 32 (Go.Operand.tmp 30), type := 32, pos := _, after := #[{ on := 3, ground := Go.Ground.data }], guard := none }) (v := .int .u64 (k : Int)) rfl (by kernel_rfl) (by kernel_rfl) (by kernel_rfl) (fun _ _ _ h => h) (Or.inl ⟨by rfl, fun w' hw' => ?_⟩) hHeld ?_
      · first | (go_simp; done) | (go_simp; rfl)
      try simp only [Act.put, List.setIfInBounds_toArray, List.set_cons_zero, List.set_cons_succ]
      refine wpAnyH_ready (rs := [5]) (by kernel_rfl) (by simp) ?_
      refine AllReadyH.cons (o := { dst := some 32, op := Go.Op.call { callee := Go.Callee.value (Go.Operand.func 27), args := #[Go.Operand.tmp 29, Go.Operand.tmp 31], argTypes := #[9, 32] }, type := 22, pos := _, after := #[{ on := 2, ground := Go.Ground.data }, { on := 4, ground := Go.Ground.data }], guard := none }) rfl (fun K hK => ?_) AllReadyH.nil
      rw [if_pos (by rfl)]
      go_wp2_with fail
      refine (hq' _).mono ?_
      rintro e w2 ⟨v, rfl, hf, hb2⟩
      have hHeld2 := KS.below hHeld hb2
      have HQ : Hid _ := hf.hb
      have HO2 : Hid (OD (w.heap.size + 1) w2 u8 k (KC k)) := OD.below (World.ownsRow.drew HO.out) hb2
      clear hb2 hf
      refine hK.out _ _ hHeld2 (fun _ => ?_)
      clear hK K
      try simp only [Act.put, List.setIfInBounds_toArray, List.set_cons_zero, List.set_cons_succ]
      refine wpAnyH_ready (rs := [6]) (by kernel_rfl) (by simp) ?_
      refine AllReadyH.cons (o := { dst := some 33, op := Go.Op.call { callee := Go.Callee.value (Go.Operand.func 9), args := #[Go.Operand.tmp 28, Go.Operand.tmp 32], argTypes := #[22, 22] }, type := 24, pos := _, after := #[{ on := 1, ground := Go.Ground.data }, { on := 5, ground := Go.Ground.data }, { on := 5, ground := Go.Ground.chain }], guard := none }) rfl (fun K hK => ?_) AllReadyH.nil
      rw [if_pos (by rfl)]
      go_wp2_with fail
      refine (htg' _ _ _ (HHD.out _ hHeld2) HQ.out).mono ?_
      rintro e w3 ⟨rfl, hb3⟩
      have hHeld3 := KS.below hHeld2 hb3
      have HO3 : Hid (OD (w.heap.size + 1) w3 u8 k (KC k)) := OD.below HO2.out hb3
      clear hb3 HO2
      refine hK.out _ _ hHeld3 (fun _ => ?_)
      clear hK K
      try simp only [Act.put, List.setIfInBounds_toArray, List.set_cons_zero, List.set_cons_succ]
      refine wpAnyH_ready (rs := [7]) (by kernel_rfl) (by simp) ?_
      refine AllReadyH.cons (o := { dst := some 34, op := Go.Op.buildSlice 40 1 #[(0, Go.Operand.tmp 33)], type := 40, pos := _, after := #[{ on := 6, ground := Go.Ground.data }], guard := none }) rfl (fun K hK => ?_) AllReadyH.nil
      rw [if_pos (by rfl)]
      refine wp_buildSlice 40 24 1 _ rfl RS i0 (.agg Z32) Try.underlying40 HI.out HZ0.out (by rw [HZ1.out]; decide) (by rw [HZ1.out]; decide) (by rw [HZ1.out]; simp only [List.map_toArray, List.map_cons, List.map_nil]; refine fill1 RS _ HRS.out ?_; simp) ?_
      have hHeld4 := KS.below hHeld3 ((Below.refl w3.heap.size w3).alloc (Nat.le_refl _) (.cells RS 24))
      have HO4 : Hid (OD (w.heap.size + 1) (w3.alloc (.cells RS 24)) u8 k (KC k)) := OD.below HO3.out ((Below.refl _ _).alloc (Nat.le_refl _) _)
      refine hK.out _ _ hHeld4 (fun _ => ?_)
      clear hK K
      try simp only [Act.put, List.setIfInBounds_toArray, List.set_cons_zero, List.set_cons_succ]
      refine wpAnyH_ready (rs := [8]) (by kernel_rfl) (by simp) ?_
      refine AllReadyH.cons (o := { dst := some 35, op := Go.Op.call { callee := Go.Callee.builtin Go.Builtin.append, args := #[Go.Operand.tmp 27, Go.Operand.tmp 34], argTypes := #[40, 40] }, type := 40, pos := _, after := #[{ on := 0, ground := Go.Ground.data }, { on := 7, ground := Go.Ground.data }, { on := 6, ground := Go.Ground.chain }], guard := none }) rfl (fun K hK => ?_) AllReadyH.nil
      rw [if_pos (by rfl)]
      refine wp_append_lies _ (.tmp 27) (.tmp 34) 40 rfl (w.heap.size + 1) 24 i0 (.agg Z32) 32 32 Try.underlying40 HI.out HZ0.out HZ1.out HZ2.out rfl (by decide) u8 k (KC k) rfl HO4.out ⟨w3.heap.size, 0, none⟩ 1 1 RS.toList rfl (by simp [HRS.out]) (fun j u hu => by rw [Addr.add_mid, Nat.zero_add, cell_of_row _ _ _ _ _ _ (heap_alloc_new _ _)]; simpa using hu) HR1.out (by decide) (by unfold maxLen; omega) (by omega) (by have := row_lt hHeld4.1; omega) _ rfl ?_
      intro g5 cap5 w5 hown5 hgr5 hg5 hlt5
      have hHeld5 := KS.grown hHeld4 hgr5 (fun j hj => (OD.ge HO4.out j hj).1)
      have HO5 : Hid _ := hown5
      clear hown5 hgr5
      refine hK.out _ _ hHeld5 (fun _ => ?_)
      clear hK K
      try simp only [Act.put, List.setIfInBounds_toArray, List.set_cons_zero, List.set_cons_succ]
      have hHeld := hHeld5
      refine wpAnyH_take (i := 9) (oi := { dst := some 8, op := Go.Op.assign (Go.Operand.tmp 35), type := 40, pos := _, after := #[{ on := 8, ground := Go.Ground.data }, { on := 8, ground := Go.Ground.chain }, { on := 0, ground := Go.Ground.phase }, { on := 1, ground := Go.Ground.phase }, { on := 2, ground := Go.Ground.phase }, { on := 3, ground := Go.Ground.phase }, { on := 4, ground := Go.Ground.phase }, { on := 5, ground := Go.Ground.phase }, { on := 6, ground := Go.Ground.phase }, { on := 7, ground := Go.Ground.phase }, { on := 8, ground := Go.Ground.phase }], guard := none }) (v := .slice (some ⟨g5, 0, none⟩) (k + 1) cap5) rfl (by kernel_rfl) (by kernel_rfl) (by kernel_rfl) (fun _ _ _ h => h) (Or.inl ⟨by rfl, fun w' hw' => ?_⟩) hHeld ?_
      · first | (go_simp; done) | (go_simp; rfl)
      try simp only [Act.put, List.setIfInBounds_toArray, List.set_cons_zero, List.set_cons_succ]
      refine wpAnyH_done (by kernel_rfl) ?_ _
      have HK5 : Hid _ := hHeld5
      clear hHeld hHeld2 hHeld3 hHeld4 hHeld5
      go_wp2
      go_roundw
      case rel => exact ⟨k + 1, by omega, by go_num, by rw [HKS.out]; exact HO5.out, HK5.out⟩
      case measure => simp [intOf]; omega
    · have hkn : k = n := by omega
      rw [hkn] at hown
      clear hk hkn
      go_wp2
      go_ret2
      exact ⟨_, rfl, hown, hks.2⟩

end Go.Proofs.Ytojafgilpnnbiab
