/- params: ref 1's Put and Join; the reference's word and granule. -/
import Derived.Test.YtbmmibmfjhehhaaGreatBB
set_option linter.unusedVariables false
set_option linter.unusedSimpArgs false
namespace Go.Proofs.YtbmmibmfjhehhaaGreat.DP
open Go.RowKit Go.Proofs.YtbmmibmfjhehhaaGreat.R5

theorem wpList_app1 {ops : Array Oper} {rest : List Oper} {o : Oper} {a : Act} {Q : Exit → Act → World → Prop} {W : World} {cv : Value} (hgd : o.guard = none) (s x : Operand) (ho : o.op = .call { callee := .builtin .append, args := #[s, x], argTypes := #[64, 64] })
    (base : Nat) (v : Value) (l : List UInt8) (c : UInt8) (hcv : cv = B8 c) (hs : a.eval s = v) (hx : a.eval x = .slice (some ⟨W.heap.size, 0, none⟩) 1 1) (hown : FB base W v l) (hl : l.length ≤ 2199023255552) (hbase : base ≤ W.heap.size)
    (h : ∀ g cap w', FB base w' (.slice (some ⟨g, 0, none⟩) (l.length + 1) cap) (l ++ [c]) → (W.alloc (.cells #[cv] 5)).grownBy w' v.ownBlock → (v.ownBlock = some g ∨ g = W.heap.size + 1) → g < w'.heap.size → wpList Tryz.prog ops Q rest (a.put o.dst (.slice (some ⟨g, 0, none⟩) (l.length + 1) cap)) w') :
    wpList Tryz.prog ops Q (o :: rest) a (W.alloc (.cells #[cv] 5)) := by
  obtain ⟨i0, hi, hz0, hz1, hz2⟩ := info_parts Tryz.infoU8
  refine wpList_append_lies _ hgd s x 64 ho base 5 i0 (.int .u8 0) 1 1 Tryz.underlying64 hi hz0 hz1 hz2 rfl (by decide) v _ _ hs (World.ownsRow.alloc hown _) ⟨W.heap.size, 0, none⟩ 1 1 [cv] hx rfl (by exact cell_one_new _ _ _) (by intro u hu; simp at hu; subst hu; rw [hcv]; rfl) (by decide) (by unfold maxLen; omega) (by omega) (by simp; omega) (W.heap.size + 1) (by simp) ?_
  intro g cap w' h1 h2 h3 h4
  refine h g cap w' ?_ h2 h3 h4
  unfold FB
  rw [List.length_append, List.map_append, List.map_cons, List.map_nil, ← hcv]
  exact h1
theorem fb_ge {base : Nat} {w : World} {v : Value} {l : List UInt8} (h : FB base w v l) : ∀ k, v.ownBlock = some k → base ≤ k ∧ k < w.heap.size := fun k hk => by
  rcases h.2 with ⟨h1, _⟩ | ⟨g, cap, cur, h1, h2, h3, _⟩
  · rw [h1] at hk; cases hk
  · rw [h1] at hk
    simp only [Value.ownBlock, Option.some.injEq] at hk
    subst hk
    exact ⟨h2, (Array.getElem?_eq_some_iff.1 h3).1⟩
theorem le_snoc (k n : Nat) : W1.le (k + 1) n = W1.le k n ++ [UInt8.ofNat (n / 256 ^ k % 256)] := by
  apply List.ext_getElem?
  intro i
  rcases Nat.lt_trichotomy i k with h | h | h
  · rw [List.getElem?_append_left (by rw [W1.le_length]; exact h), W1.le_get _ _ _ (by omega), W1.le_get _ _ _ h]
  · subst h
    rw [List.getElem?_append_right (by rw [W1.le_length]; exact Nat.le_refl _), W1.le_get _ _ _ (by omega), W1.le_length]
    simp
  · rw [List.getElem?_eq_none (by rw [W1.le_length]; omega), List.getElem?_eq_none (by simp [W1.le_length]; omega)]
set_option maxHeartbeats 1000000 in
theorem refPut_any (n size : Nat) (w : World) (hn : n < 18446744073709551616) (hs : size ≤ 8) :
    Calls Tryz.prog 33 #[.int .u64 (n : Int), .int .i64 (size : Int)] w fun e w' => ∃ v, e = .returned v ∧ FB w.heap.size w' v (W1.le size n) ∧ Below w.heap.size w w' := by
  go_enter Tryz.func33, Tryz.ntmps33
  go_wp2
  go_loopw [0, 5, 6] (fun m v i wr => ∃ k : Nat, k ≤ size ∧ m = .int .u64 ((n / 256 ^ k : Nat) : Int) ∧ i = .int .i64 k ∧ FB w.heap.size wr v (W1.le k n) ∧ Below w.heap.size w wr) (fun _ _ i _ => size - (intOf i).toNat)
  case atStart => exact ⟨0, Nat.zero_le _, by simp, rfl, World.ownsRow_nil _ _ _ _, Below.refl _ _⟩
  case round =>
    obtain ⟨k, hk, rfl, rfl, hown, hbel⟩ := hrel
    have hsz := hbel.size
    by_cases hlt : k < size
    · obtain ⟨q, hq⟩ : ∃ q, q = n / 256 ^ k := ⟨_, rfl⟩
      have hqn : q < 18446744073709551616 := by rw [hq]; exact Nat.lt_of_le_of_lt (Nat.div_le_self _ _) hn
      obtain ⟨c, hc⟩ : ∃ c, c = UInt8.ofNat (n / 256 ^ k % 256) := ⟨_, rfl⟩
      obtain ⟨r, hr⟩ : ∃ r, r = n / 256 ^ (k + 1) := ⟨_, rfl⟩
      have hdiv : (q : Int) / 256 = (r : Int) := by
        have : q / 256 = r := by rw [hq, hr, Nat.div_div_eq_div_mul, Nat.pow_succ]
        omega
      have hmod : (q : Int) % 256 = (c.toNat : Int) := by
        have : c.toNat = q % 256 := by rw [hc, ← hq]; show _ % 256 = _; omega
        omega
      have hcm : (c.toNat : Int) % 256 = (c.toNat : Int) := by have := c.toNat_lt; omega
      have HL : Hid _ := le_snoc k n
      have HC : Hid _ := hc
      have HR : Hid _ := hr
      have hll : (W1.le k n).length = k := W1.le_length _ _
      have HLL : Hid _ := hll
      have HO : Hid _ := hown
      rw [← hq]
      clear hq hc hr hown
      generalize W1.le k n = L at *
      go_wp2_with (at_builtin; refine wpList_app1 rfl (.tmp 12) (.tmp 16) rfl w.heap.size _ L c rfl rfl rfl HO.out (by omega) hsz ?_; intro g3 cap3 w3 hf3 hgr3 hg3 hlt3)
      go_roundw
      case rel =>
        refine ⟨k + 1, by omega, by rw [← HR.out], by go_num, ?_, (hbel.alloc hsz _).grown hgr3 (by simp; omega) (fun j hj => (fb_ge HO.out j hj).1)⟩
        rw [HL.out, ← HC.out]
        rw [HLL.out] at hf3
        exact hf3
      case measure => simp [intOf]; omega
    · have hks : k = size := by omega
      rw [hks] at hown
      clear hks
      go_wp2
      go_ret
      exact ⟨_, rfl, hown, hbel⟩
theorem wpList_appHB {ops : Array Oper} {rest : List Oper} {o : Oper} {a : Act} {Q : Exit → Act → World → Prop} {w : World} (hgd : o.guard = none) (s x : Operand) (ho : o.op = .call { callee := .builtin .append, args := #[s, x], argTypes := #[64, 64] })
    (base : Nat) (v u : Value) (l b : List UInt8) (hs : a.eval s = v) (hx : a.eval x = u) (hown : FB base w v l) (hb : HB w u b) (hl : l.length + b.length ≤ 2199023255552) (hbase : base ≤ w.heap.size)
    (h : ∀ v' w', FB base w' v' (l ++ b) → w.grownBy w' v.ownBlock → wpList Tryz.prog ops Q rest (a.put o.dst v') w') : wpList Tryz.prog ops Q (o :: rest) a w := by
  obtain ⟨i0, hi, hz0, hz1, hz2⟩ := info_parts Tryz.infoU8
  obtain ⟨p, cp, rfl, hpn, hpc⟩ := hb_cells hb
  cases p with
  | none =>
    obtain ⟨rfl, rfl⟩ := hpn rfl
    refine wpList_append_own_none hgd s x 64 ho base 5 i0 1 Tryz.underlying64 hi v _ _ hs hown hx ?_
    exact h v w (by rw [List.append_nil]; exact hown) ⟨rfl, rfl, rfl, Nat.le_refl _, fun _ _ _ => rfl⟩
  | some ad =>
    refine wpList_append_own w hgd s x 64 ho base 5 i0 (.int .u8 0) 1 1 Tryz.underlying64 hi hz0 hz1 hz2 rfl (by decide) v _ _ hs hown ad b.length cp (b.map B8) hx (by simp) (hpc ad rfl) (B8_one b) (by unfold maxLen; omega) (by omega) hbase ?_
    intro v' w' h1 h2 _
    refine h v' w' ?_ h2
    unfold FB
    rw [List.length_append, List.map_append]
    exact h1
theorem flat_take (ls : List (List UInt8)) (k : Nat) (h : k < ls.length) : (ls.take (k + 1)).flatten = (ls.take k).flatten ++ ls.getD k [] := by
  rw [List.take_succ_eq_append_getElem h, List.flatten_append]
  simp [List.getD, List.getElem?_eq_getElem h]
theorem flat_le (ls : List (List UInt8)) (k : Nat) : (ls.take k).flatten.length ≤ ls.flatten.length := by
  have h : (ls.take k ++ ls.drop k).flatten = ls.flatten := by rw [List.take_append_drop]
  rw [← h, List.flatten_append, List.length_append]; omega
def HL (w : World) (g : Nat) (ls : List (List UInt8)) : Prop := ∀ i, i < ls.length → ∃ u, w.cell? ⟨g, i, none⟩ = some u ∧ HB w u (ls.getD i [])
theorem HL.below {w w' : World} {g : Nat} {ls : List (List UInt8)} (h : HL w g ls) (hb : Below w.heap.size w w') : HL w' g ls := fun i hi => by
  obtain ⟨u, h1, h2⟩ := h i hi
  exact ⟨u, (hb.cell (block_lt h1)).trans h1, h2.below hb⟩
end Go.Proofs.YtbmmibmfjhehhaaGreat.DP
