/- Contracts of ref 1's Put and Pack. -/
import Derived.Test.YtojafgilpnnbiabG5
import Derived.Test.YtojafgilpnnbiabH1
set_option linter.unusedVariables false
set_option linter.unusedSimpArgs false
namespace Go.Proofs.Ytojafgilpnnbiab
open Go.RowKit

theorem le_snoc (k n : Nat) : W1.le (k + 1) n = W1.le k n ++ [UInt8.ofNat (n / 256 ^ k % 256)] := by
  apply List.ext_getElem?
  intro i
  rcases Nat.lt_trichotomy i k with h | h | h
  · rw [List.getElem?_append_left (by rw [W1.le_length]; exact h), W1.le_get _ _ _ (by omega), W1.le_get _ _ _ h]
  · subst h
    rw [List.getElem?_append_right (by rw [W1.le_length]; exact Nat.le_refl _), W1.le_get _ _ _ (by omega), W1.le_length]
    simp
  · rw [List.getElem?_eq_none (by rw [W1.le_length]; omega), List.getElem?_eq_none (by simp [W1.le_length]; omega)]

/-- append(s, b...), b whatever it be, as one step. -/
theorem wp_appHB {o : Oper} {a : Act} {K : Act → World → Prop} {Q : Exit → Act → World → Prop} {w : World} (s x : Operand) (ho : o.op = .call { callee := .builtin .append, args := #[s, x], argTypes := #[22, 22] })
    (base : Nat) (v u : Value) (l b : List UInt8) (hs : a.eval s = v) (hx : a.eval x = u) (hown : FB base w v l) (hb : HB w u b) (hl : l.length + b.length ≤ 2199023255552) (hbase : base ≤ w.heap.size)
    (h : ∀ v' w', FB base w' v' (l ++ b) → w.grownBy w' v.ownBlock → K (a.put o.dst v') w') : o.wp Try.prog a w K Q := by
  obtain ⟨i0, hi, hz0, hz1, hz2⟩ := info_parts Try.infoU8
  obtain ⟨p, cp, rfl, hpn, hpc⟩ := hb.cells
  cases p with
  | none =>
    obtain ⟨rfl, rfl⟩ := hpn rfl
    have hrun := run_append_owned_none (P := Try.prog) (w := w) base 22 o.type 5 i0 1 Try.underlying22 hi v _ _ hown
    have hx' : a.eval x = .slice none 0 0 := hx
    unfold Oper.wp
    simp [execOp, ho, resolve, invoke, builtin, hs, hx', hrun, Result.andThen]
    exact h v w (by rw [List.append_nil]; exact hown) ⟨rfl, rfl, rfl, Nat.le_refl _, fun _ _ _ => rfl⟩
  | some ad =>
    refine wp_append_own w s x 22 ho base 5 i0 (.int .u8 0) 1 1 Try.underlying22 hi hz0 hz1 hz2 rfl (by decide) v _ _ hs hown ad b.length cp (b.map B8) hx (by simp) (hpc ad rfl) (B8_one b) (by unfold maxLen; omega) (by omega) hbase ?_
    intro v' w' h1 h2 _
    refine h v' w' ?_ h2
    unfold FB
    rw [List.length_append, List.map_append]
    exact h1

set_option maxHeartbeats 1000000 in
theorem refPut_any (n size : Nat) (w : World) (hn : n < 18446744073709551616) (hs : size ≤ 8) :
    Calls Try.prog 29 #[.int .u64 (n : Int), .int .i64 (size : Int)] w fun e w' => ∃ v, e = .returned v ∧ FB w.heap.size w' v (W1.le size n) ∧ Below w.heap.size w w' := by
  go_enter Try.func29, Try.ntmps29
  go_wp2
  go_loopw [0, 5, 6] (fun m v i wr => ∃ k : Nat, k ≤ size ∧ m = .int .u64 ((n / 256 ^ k : Nat) : Int) ∧ i = .int .i64 k ∧ FB w.heap.size wr v (W1.le k n) ∧ Below w.heap.size w wr) (fun _ _ i _ => size - (intOf i).toNat)
  case atStart => exact ⟨0, Nat.zero_le _, by simp, rfl, World.ownsRow_nil _ _ _ _, Below.refl _ _⟩
  case round =>
    obtain ⟨k, hk, rfl, rfl, hown, hbel⟩ := hrel
    have hsz := hbel.size
    by_cases hlt : k < size
    · obtain ⟨q, hq⟩ : ∃ q, q = n / 256 ^ k := ⟨_, rfl⟩
      have hqn : q < 18446744073709551616 := by rw [hq]; exact Nat.lt_of_le_of_lt (Nat.div_le_self _ _) hn
      obtain ⟨c, hc⟩ : ∃ c, c = UInt8.ofNat (n / 256 ^ k % 256) := ⟨_, rfl⟩
      obtain ⟨r, hr⟩ : ∃ r, r = n / 256 ^ (k + 1) := ⟨_, rfl⟩
      have hdiv : (q : Int) / 256 = (r : Int) := by
        have : q / 256 = r := by rw [hq, hr, Nat.div_div_eq_div_mul, Nat.pow_succ]
        omega
      have hmod : (q : Int) % 256 = (c.toNat : Int) := by
        have : c.toNat = q % 256 := by rw [hc, ← hq]; show _ % 256 = _; omega
        omega
      have hcm : (c.toNat : Int) % 256 = (c.toNat : Int) := by have := c.toNat_lt; omega
      have HL : Hid _ := le_snoc k n
      have HC : Hid _ := hc
      have HR : Hid _ := hr
      have hll : (W1.le k n).length = k := W1.le_length _ _
      have HLL : Hid _ := hll
      have HO : Hid _ := hown
      rw [← hq]
      clear hq hc hr hown
      generalize W1.le k n = L at *
      go_wp2_with (at_builtin; refine wpList_app1 rfl (.tmp 12) (.tmp 16) rfl w.heap.size _ L c rfl rfl rfl HO.out (by omega) hsz ?_; intro g3 cap3 w3 hf3 hgr3 hg3 hlt3)
      go_roundw
      case rel =>
        refine ⟨k + 1, by omega, by rw [← HR.out], by go_num, ?_, (hbel.alloc hsz _).grown hgr3 (by simp; omega) (fun j hj => (FB.ge HO.out j hj).1)⟩
        rw [HL.out, ← HC.out]
        rw [HLL.out] at hf3
        exact hf3
      case measure => simp [intOf]; omega
    · have hks : k = size := by omega
      rw [hks] at hown
      clear hks
      go_wp2
      go_ret
      exact ⟨_, rfl, hown, hbel⟩

set_option maxHeartbeats 4000000 in
set_option maxRecDepth 100000 in
theorem refPack_any (b o cap : Nat) (ls : List (List UInt8)) (w : World) (hn : ls.length ≤ 64) (hl : ∀ l ∈ ls, l.length ≤ 65536) (hc : ∀ i, (h : i < ls.length) → ∃ u, w.cell? ⟨b, o + i, none⟩ = some u ∧ HB w u ls[i]) :
    Calls Try.prog 28 #[.slice (some ⟨b, o, none⟩) ls.length cap] w fun e w' => ∃ v, e = .returned v ∧ FB w.heap.size w' v (W1.pack ls) ∧ Below w.heap.size w w' := by
  have HC : Hid _ := hc
  have HLN : Hid _ := hl
  clear hc hl
  go_enter Try.func28, Try.ntmps28
  go_wp2
  go_loopw [3, 4] (fun v i wr => ∃ k : Nat, k ≤ ls.length ∧ i = .int .i64 k ∧ FB w.heap.size wr v (W1.pack (ls.take k)) ∧ Below w.heap.size w wr) (fun _ i _ => ls.length - (intOf i).toNat)
  case atStart => exact ⟨0, Nat.zero_le _, rfl, World.ownsRow_nil _ _ _ _, Below.refl _ _⟩
  case round =>
    obtain ⟨k, hk, rfl, hown, hbel⟩ := hrel
    by_cases hlt : k < ls.length
    · obtain ⟨u, hu, hbu⟩ := HC.out k hlt
      have hl1 := HLN.out ls[k] (List.getElem_mem hlt)
      have hpt := W1.pack_take_succ ls k hlt
      have hpl := W1.pack_len (ls.take k) (fun l hl => HLN.out l (List.mem_of_mem_take hl))
      rw [List.length_take] at hpl
      have HPT : Hid _ := hpt
      generalize ls[k] = l at *
      generalize W1.pack (ls.take k) = PK at *
      obtain ⟨pu, cu, rfl, _⟩ := hbu.cells
      have HBU : Hid _ := hbu
      have HU : Hid _ := hu
      have HO : Hid _ := hown
      have HBL : Hid _ := hbel
      have hPKl : PK.length ≤ 64 * 65540 := by
        have h2 : min k ls.length ≤ 64 := by omega
        exact Nat.le_trans hpl (Nat.mul_le_mul_right _ h2)
      have hlI : IntKind.u64.wrap (l.length : Int) = l.length := by rw [IntKind.wrap_u64]; omega
      have hput := fun W => refPut_any l.length 4 W (by omega) (by omega)
      clear hbu hu hown hbel hpt hpl
      go_wp2
      refine wp_region_held_drew (S := fun w' => Below w.heap.size w w') (by kernel_rfl) HBL.out.drew (fun hHeld => ?_)
      refine wpAnyH_take (i := 0) (oi := { dst := some 11, op := Go.Op.move (Go.Operand.tmp 3), type := 22, pos := _, after := #[], guard := none }) (v := u3) rfl (by kernel_rfl) (by kernel_rfl) (by kernel_rfl) (fun _ _ _ h => h) (Or.inl ⟨by rfl, fun w' hw' => ?_⟩) hHeld ?_
      · first | (go_simp; done) | (go_simp; rfl)
      try simp only [Act.put, List.setIfInBounds_toArray, List.set_cons_zero, List.set_cons_succ]
      refine wpAnyH_take (i := 1) (oi := { dst := some 12, op := Go.Op.move (Go.Operand.tmp 0), type := 53, pos := _, after := #[], guard := none }) (v := .slice (some ⟨b, o, none⟩) ls.length cap) rfl (by kernel_rfl) (by kernel_rfl) (by kernel_rfl) (fun _ _ _ h => h) (Or.inl ⟨by rfl, fun w' hw' => ?_⟩) hHeld ?_
      · first | (go_simp; done) | (go_simp; rfl)
      try simp only [Act.put, List.setIfInBounds_toArray, List.set_cons_zero, List.set_cons_succ]
      refine wpAnyH_take (i := 2) (oi := { dst := some 13, op := Go.Op.move (Go.Operand.tmp 4), type := 3, pos := _, after := #[], guard := none }) (v := .int .i64 (k : Int)) rfl (by kernel_rfl) (by kernel_rfl) (by kernel_rfl) (fun _ _ _ h => h) (Or.inl ⟨by rfl, fun w' hw' => ?_⟩) hHeld ?_
      · first | (go_simp; done) | (go_simp; rfl)
      try simp only [Act.put, List.setIfInBounds_toArray, List.set_cons_zero, List.set_cons_succ]
      refine wpAnyH_take (i := 3) (oi := { dst := some 14, op := Go.Op.indexAddr 53 (Go.Operand.tmp 12) (Go.Operand.tmp 13), type := 0, pos := _, after := #[{ on := 1, ground := Go.Ground.data }, { on := 2, ground := Go.Ground.data }], guard := none }) (v := .pointer (some ⟨b, o + k, none⟩)) rfl (by kernel_rfl) (by kernel_rfl) (by kernel_rfl) (fun _ _ _ h => h) (Or.inl ⟨by rfl, fun w' hw' => ?_⟩) hHeld ?_
      · first | (go_simp; done) | (go_simp; rfl)
      try simp only [Act.put, List.setIfInBounds_toArray, List.set_cons_zero, List.set_cons_succ]
      refine wpAnyH_take (i := 4) (oi := { dst := some 15, op := Go.Op.load 22 (Go.Operand.tmp 14), type := 22, pos := _, after := #[{ on := 3, ground := Go.Ground.data }], guard := none }) (v := .slice pu l.length cu) rfl (by kernel_rfl) (by kernel_rfl) (by kernel_rfl) (fun _ _ _ h => h) (Or.inl ⟨by rfl, fun w' hw' => ?_⟩) hHeld ?_
      · have hcc := (Below.cell hw' (block_lt HU.out)).trans HU.out; first | (go_simp; done) | (go_simp; rfl)
      try simp only [Act.put, List.setIfInBounds_toArray, List.set_cons_zero, List.set_cons_succ]
      refine wpAnyH_take (i := 5) (oi := { dst := some 16, op := Go.Op.call { callee := Go.Callee.builtin Go.Builtin.len, args := #[Go.Operand.tmp 15], argTypes := #[22] }, type := 3, pos := _, after := #[{ on := 4, ground := Go.Ground.data }], guard := none }) (v := .int .i64 (l.length : Int)) rfl (by kernel_rfl) (by kernel_rfl) (by kernel_rfl) (fun _ _ _ h => h) (Or.inl ⟨by rfl, fun w' hw' => ?_⟩) hHeld ?_
      · first | (go_simp; done) | (go_simp; rfl)
      try simp only [Act.put, List.setIfInBounds_toArray, List.set_cons_zero, List.set_cons_succ]
      refine wpAnyH_take (i := 6) (oi := { dst := some 17, op := Go.Op.convert 3 32 (Go.Operand.tmp 16), type := 32, pos := _, after := #[{ on := 5, ground := Go.Ground.data }], guard := none }) (v := .int .u64 (l.length : Int)) rfl (by kernel_rfl) (by kernel_rfl) (by kernel_rfl) (fun _ _ _ h => h) (Or.inl ⟨by rfl, fun w' hw' => ?_⟩) hHeld ?_
      · first | (go_simp; done) | (go_simp; rfl)
      try simp only [Act.put, List.setIfInBounds_toArray, List.set_cons_zero, List.set_cons_succ]
      refine wpAnyH_take (i := 9) (oi := { dst := some 20, op := Go.Op.move (Go.Operand.tmp 0), type := 53, pos := _, after := #[], guard := none }) (v := .slice (some ⟨b, o, none⟩) ls.length cap) rfl (by kernel_rfl) (by kernel_rfl) (by kernel_rfl) (fun _ _ _ h => h) (Or.inl ⟨by rfl, fun w' hw' => ?_⟩) hHeld ?_
      · first | (go_simp; done) | (go_simp; rfl)
      try simp only [Act.put, List.setIfInBounds_toArray, List.set_cons_zero, List.set_cons_succ]
      refine wpAnyH_take (i := 10) (oi := { dst := some 21, op := Go.Op.move (Go.Operand.tmp 4), type := 3, pos := _, after := #[], guard := none }) (v := .int .i64 (k : Int)) rfl (by kernel_rfl) (by kernel_rfl) (by kernel_rfl) (fun _ _ _ h => h) (Or.inl ⟨by rfl, fun w' hw' => ?_⟩) hHeld ?_
      · first | (go_simp; done) | (go_simp; rfl)
      try simp only [Act.put, List.setIfInBounds_toArray, List.set_cons_zero, List.set_cons_succ]
      refine wpAnyH_take (i := 11) (oi := { dst := some 22, op := Go.Op.indexAddr 53 (Go.Operand.tmp 20) (Go.Operand.tmp 21), type := 0, pos := _, after := #[{ on := 9, ground := Go.Ground.data }, { on := 10, ground := Go.Ground.data }], guard := none }) (v := .pointer (some ⟨b, o + k, none⟩)) rfl (by kernel_rfl) (by kernel_rfl) (by kernel_rfl) (fun _ _ _ h => h) (Or.inl ⟨by rfl, fun w' hw' => ?_⟩) hHeld ?_
      · first | (go_simp; done) | (go_simp; rfl)
      try simp only [Act.put, List.setIfInBounds_toArray, List.set_cons_zero, List.set_cons_succ]
      refine wpAnyH_take (i := 12) (oi := { dst := some 23, op := Go.Op.load 22 (Go.Operand.tmp 22), type := 22, pos := _, after := #[{ on := 11, ground := Go.Ground.data }], guard := none }) (v := .slice pu l.length cu) rfl (by kernel_rfl) (by kernel_rfl) (by kernel_rfl) (fun _ _ _ h => h) (Or.inl ⟨by rfl, fun w' hw' => ?_⟩) hHeld ?_
      · have hcc := (Below.cell hw' (block_lt HU.out)).trans HU.out; first | (go_simp; done) | (go_simp; rfl)
      try simp only [Act.put, List.setIfInBounds_toArray, List.set_cons_zero, List.set_cons_succ]
      refine wpAnyH_ready (rs := [7]) (by kernel_rfl) (by simp) ?_
      refine AllReadyH.cons (o := { dst := some 18, op := Go.Op.call { callee := Go.Callee.value (Go.Operand.func 29), args := #[Go.Operand.tmp 17, Go.Operand.const (Go.Value.int Go.IntKind.i64 4)], argTypes := #[32, 3] }, type := 22, pos := _, after := #[{ on := 6, ground := Go.Ground.data }], guard := none }) rfl (fun K hK => ?_) AllReadyH.nil
      rw [if_pos (by rfl)]
      go_wp2_with fail
      refine (hput _).mono ?_
      rintro e w1 ⟨vp, rfl, hfp, hb1⟩
      have hc1 : Below w.heap.size w w1 := hHeld.trans (hb1.mono hHeld.size)
      have HO1 : Hid (FB w.heap.size w1 u3 PK) := FB.below (World.ownsRow.drew HO.out) hb1
      have HP1 : Hid _ := hfp.hb
      clear hfp hb1
      refine hK.out _ _ hc1 (fun _ => ?_)
      clear hK K
      try simp only [Act.put, List.setIfInBounds_toArray, List.set_cons_zero, List.set_cons_succ]
      refine wpAnyH_ready (rs := [8]) (by kernel_rfl) (by simp) ?_
      refine AllReadyH.cons (o := { dst := some 19, op := Go.Op.call { callee := Go.Callee.builtin Go.Builtin.append, args := #[Go.Operand.tmp 11, Go.Operand.tmp 18], argTypes := #[22, 22] }, type := 22, pos := _, after := #[{ on := 0, ground := Go.Ground.data }, { on := 7, ground := Go.Ground.data }, { on := 7, ground := Go.Ground.chain }], guard := none }) rfl (fun K hK => ?_) AllReadyH.nil
      rw [if_pos (by rfl)]
      refine wp_appHB (.tmp 11) (.tmp 18) rfl w.heap.size u3 _ PK (W1.le 4 l.length) rfl rfl HO1.out HP1.out (by rw [W1.le_length]; omega) hc1.size ?_
      intro v2 w2 hf2 hg2
      have hc2 : Below w.heap.size w w2 := hc1.grown hg2 hc1.size (fun j hj => (FB.ge HO1.out j hj).1)
      have HF2 : Hid _ := hf2
      clear hf2 hg2
      refine hK.out _ _ hc2 (fun _ => ?_)
      clear hK K
      try simp only [Act.put, List.setIfInBounds_toArray, List.set_cons_zero, List.set_cons_succ]
      refine wpAnyH_ready (rs := [13]) (by kernel_rfl) (by simp) ?_
      refine AllReadyH.cons (o := { dst := some 24, op := Go.Op.call { callee := Go.Callee.builtin Go.Builtin.append, args := #[Go.Operand.tmp 19, Go.Operand.tmp 23], argTypes := #[22, 22] }, type := 22, pos := _, after := #[{ on := 8, ground := Go.Ground.data }, { on := 12, ground := Go.Ground.data }, { on := 8, ground := Go.Ground.chain }], guard := none }) rfl (fun K hK => ?_) AllReadyH.nil
      rw [if_pos (by rfl)]
      refine wp_appHB (.tmp 19) (.tmp 23) rfl w.heap.size v2 _ (PK ++ W1.le 4 l.length) l rfl rfl HF2.out (HB.below HBU.out hc2) (by rw [List.length_append, W1.le_length]; omega) hc2.size ?_
      intro v3 w3 hf3 hg3
      have hc3 : Below w.heap.size w w3 := hc2.grown hg3 hc2.size (fun j hj => (FB.ge HF2.out j hj).1)
      have HF3 : Hid _ := hf3
      clear hf3 hg3
      refine hK.out _ _ hc3 (fun _ => ?_)
      clear hK K
      try simp only [Act.put, List.setIfInBounds_toArray, List.set_cons_zero, List.set_cons_succ]
      have hHeld := hc3
      refine wpAnyH_take (i := 14) (oi := { dst := some 3, op := Go.Op.assign (Go.Operand.tmp 24), type := 22, pos := _, after := #[{ on := 13, ground := Go.Ground.data }, { on := 13, ground := Go.Ground.chain }, { on := 0, ground := Go.Ground.phase }, { on := 1, ground := Go.Ground.phase }, { on := 2, ground := Go.Ground.phase }, { on := 3, ground := Go.Ground.phase }, { on := 4, ground := Go.Ground.phase }, { on := 5, ground := Go.Ground.phase }, { on := 6, ground := Go.Ground.phase }, { on := 7, ground := Go.Ground.phase }, { on := 8, ground := Go.Ground.phase }, { on := 9, ground := Go.Ground.phase }, { on := 10, ground := Go.Ground.phase }, { on := 11, ground := Go.Ground.phase }, { on := 12, ground := Go.Ground.phase }, { on := 13, ground := Go.Ground.phase }], guard := none }) (v := v3) rfl (by kernel_rfl) (by kernel_rfl) (by kernel_rfl) (fun _ _ _ h => h) (Or.inl ⟨by rfl, fun w' hw' => ?_⟩) hHeld ?_
      · first | (go_simp; done) | (go_simp; rfl)
      try simp only [Act.put, List.setIfInBounds_toArray, List.set_cons_zero, List.set_cons_succ]
      refine wpAnyH_done (by kernel_rfl) ?_ _
      have HC3 : Hid _ := hc3
      clear hc1 hc2 hc3 hHeld
      go_wp2
      go_roundw
      case rel => exact ⟨k + 1, by omega, by go_num, by rw [HPT.out]; exact HF3.out, HC3.out⟩
      case measure => simp [intOf]; omega
    · rw [List.take_of_length_le (by omega)] at hown
      go_wp2
      go_ret
      exact ⟨_, rfl, hown, hbel⟩

end Go.Proofs.Ytojafgilpnnbiab
