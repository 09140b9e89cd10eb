/- entry: contracts of ref 1's Put and Get; of ref 8's Bytes and Of. -/
import Derived.Test.YtkpjfhphohanlaaGreatDoorED
import Derived.Test.YtkpjfhphohanlaaGreatDoorJZ
import Derived.Laws.AppendOwnNone
import Derived.Deep.AppendLies
set_option linter.unusedVariables false
set_option linter.unusedSimpArgs false
namespace Go.Proofs.YtkpjfhphohanlaaGreatDoor.EC
open Go.RowKit

/-- append(s, c). -/
theorem wpList_app1 {ops : Array Oper} {rest : List Oper} {o : Oper} {a : Act} {Q : Exit → Act → World → Prop} {W : World} {cv : Value} (hgd : o.guard = none) (s x : Operand) (ho : o.op = .call { callee := .builtin .append, args := #[s, x], argTypes := #[66, 66] })
    (base : Nat) (v : Value) (l : List UInt8) (c : UInt8) (hcv : cv = B8 c) (hs : a.eval s = v) (hx : a.eval x = .slice (some ⟨W.heap.size, 0, none⟩) 1 1) (hown : FB base W v l) (hl : l.length ≤ 2199023255552) (hbase : base ≤ W.heap.size)
    (h : ∀ g cap w', FB base w' (.slice (some ⟨g, 0, none⟩) (l.length + 1) cap) (l ++ [c]) → (W.alloc (.cells #[cv] 5)).grownBy w' v.ownBlock → (v.ownBlock = some g ∨ g = W.heap.size + 1) → g < w'.heap.size → wpList Tryz.prog ops Q rest (a.put o.dst (.slice (some ⟨g, 0, none⟩) (l.length + 1) cap)) w') :
    wpList Tryz.prog ops Q (o :: rest) a (W.alloc (.cells #[cv] 5)) := by
  obtain ⟨i0, hi, hz0, hz1, hz2⟩ := info_parts Tryz.infoU8
  refine wpList_append_lies _ hgd s x 66 ho base 5 i0 (.int .u8 0) 1 1 Tryz.underlying66 hi hz0 hz1 hz2 rfl (by decide) v _ _ hs (World.ownsRow.alloc hown _) ⟨W.heap.size, 0, none⟩ 1 1 [cv] hx rfl (by exact cell_one_new _ _ _) (by intro u hu; simp at hu; subst hu; rw [hcv]; rfl) (by decide) (by unfold maxLen; omega) (by omega) (by simp; omega) (W.heap.size + 1) (by simp) ?_
  intro g cap w' h1 h2 h3 h4
  refine h g cap w' ?_ h2 h3 h4
  unfold FB
  rw [List.length_append, List.map_append, List.map_cons, List.map_nil, ← hcv]
  exact h1

theorem fb_ge {base : Nat} {w : World} {v : Value} {l : List UInt8} (h : FB base w v l) : ∀ k, v.ownBlock = some k → base ≤ k ∧ k < w.heap.size := fun k hk => by
  rcases h.2 with ⟨h1, _⟩ | ⟨g, cap, cur, h1, h2, h3, _⟩
  · rw [h1] at hk; cases hk
  · rw [h1] at hk
    simp only [Value.ownBlock, Option.some.injEq] at hk
    subst hk
    exact ⟨h2, (Array.getElem?_eq_some_iff.1 h3).1⟩
theorem le_snoc (k n : Nat) : W1.le (k + 1) n = W1.le k n ++ [UInt8.ofNat (n / 256 ^ k % 256)] := by
  apply List.ext_getElem?
  intro i
  rcases Nat.lt_trichotomy i k with h | h | h
  · rw [List.getElem?_append_left (by rw [W1.le_length]; exact h), W1.le_get _ _ _ (by omega), W1.le_get _ _ _ h]
  · subst h
    rw [List.getElem?_append_right (by rw [W1.le_length]; exact Nat.le_refl _), W1.le_get _ _ _ (by omega), W1.le_length]
    simp
  · rw [List.getElem?_eq_none (by rw [W1.le_length]; omega), List.getElem?_eq_none (by simp [W1.le_length]; omega)]

set_option maxHeartbeats 1000000 in
theorem refPut_any (n size : Nat) (w : World) (hn : n < 18446744073709551616) (hs : size ≤ 8) :
    Calls Tryz.prog 42 #[.int .u64 (n : Int), .int .i64 (size : Int)] w fun e w' => ∃ v, e = .returned v ∧ FB w.heap.size w' v (W1.le size n) ∧ Below w.heap.size w w' := by
  go_enter Tryz.func42, Tryz.ntmps42
  go_wp2
  go_loopw [0, 5, 6] (fun m v i wr => ∃ k : Nat, k ≤ size ∧ m = .int .u64 ((n / 256 ^ k : Nat) : Int) ∧ i = .int .i64 k ∧ FB w.heap.size wr v (W1.le k n) ∧ Below w.heap.size w wr) (fun _ _ i _ => size - (intOf i).toNat)
  case atStart => exact ⟨0, Nat.zero_le _, by simp, rfl, World.ownsRow_nil _ _ _ _, Below.refl _ _⟩
  case round =>
    obtain ⟨k, hk, rfl, rfl, hown, hbel⟩ := hrel
    have hsz := hbel.size
    by_cases hlt : k < size
    · obtain ⟨q, hq⟩ : ∃ q, q = n / 256 ^ k := ⟨_, rfl⟩
      have hqn : q < 18446744073709551616 := by rw [hq]; exact Nat.lt_of_le_of_lt (Nat.div_le_self _ _) hn
      obtain ⟨c, hc⟩ : ∃ c, c = UInt8.ofNat (n / 256 ^ k % 256) := ⟨_, rfl⟩
      obtain ⟨r, hr⟩ : ∃ r, r = n / 256 ^ (k + 1) := ⟨_, rfl⟩
      have hdiv : (q : Int) / 256 = (r : Int) := by
        have : q / 256 = r := by rw [hq, hr, Nat.div_div_eq_div_mul, Nat.pow_succ]
        omega
      have hmod : (q : Int) % 256 = (c.toNat : Int) := by
        have : c.toNat = q % 256 := by rw [hc, ← hq]; show _ % 256 = _; omega
        omega
      have hcm : (c.toNat : Int) % 256 = (c.toNat : Int) := by have := c.toNat_lt; omega
      have HL : Hid _ := le_snoc k n
      have HC : Hid _ := hc
      have HR : Hid _ := hr
      have hll : (W1.le k n).length = k := W1.le_length _ _
      have HLL : Hid _ := hll
      have HO : Hid _ := hown
      rw [← hq]
      clear hq hc hr hown
      generalize W1.le k n = L at *
      go_wp2_with (at_builtin; refine wpList_app1 rfl (.tmp 12) (.tmp 16) rfl w.heap.size _ L c rfl rfl rfl HO.out (by omega) hsz ?_; intro g3 cap3 w3 hf3 hgr3 hg3 hlt3)
      go_roundw
      case rel =>
        refine ⟨k + 1, by omega, by rw [← HR.out], by go_num, ?_, (hbel.alloc hsz _).grown hgr3 (by simp; omega) (fun j hj => (fb_ge HO.out j hj).1)⟩
        rw [HL.out, ← HC.out]
        rw [HLL.out] at hf3
        exact hf3
      case measure => simp [intOf]; omega
    · have hks : k = size := by omega
      rw [hks] at hown
      clear hks
      go_wp2
      go_ret
      exact ⟨_, rfl, hown, hbel⟩


theorem num_drop (l : List UInt8) (k : Nat) (h : k < l.length) : W1.num (l.drop k) = l[k].toNat + 256 * W1.num (l.drop (k + 1)) := by
  rw [List.drop_eq_getElem_cons h]; rfl
theorem num_drop_lt (l : List UInt8) (k : Nat) (hl : l.length ≤ 8) : W1.num (l.drop k) < 18446744073709551616 := by
  have h := W1.num_lt (l.drop k)
  have h2 : 256 ^ (l.drop k).length ≤ 256 ^ 8 := Nat.pow_le_pow_right (by decide) (by rw [List.length_drop]; omega)
  have h3 : 256 ^ 8 = 18446744073709551616 := by decide
  omega
theorem num_drop_lt7 (l : List UInt8) (k : Nat) (hl : l.length ≤ 8) : W1.num (l.drop (k + 1)) < 72057594037927936 := by
  have h := W1.num_lt (l.drop (k + 1))
  have h2 : 256 ^ (l.drop (k + 1)).length ≤ 256 ^ 7 := Nat.pow_le_pow_right (by decide) (by rw [List.length_drop]; omega)
  have h3 : 256 ^ 7 = 72057594037927936 := by decide
  omega
set_option maxHeartbeats 400000 in
theorem refGet_any (b o cap : Nat) (l : List UInt8) (w : World) (hl : l.length ≤ 8) (hc : ∀ i, i < l.length → w.cell? ⟨b, o + i, none⟩ = some (.int .u8 ((l.getD i 0).toNat : Int))) :
    Calls Tryz.prog 43 #[.slice (some ⟨b, o, none⟩) l.length cap] w fun e w' => e = .returned (.int .u64 (W1.num l : Int)) ∧ w = w' := by
  go_enter Tryz.func43, Tryz.ntmps43
  go_wp2
  go_loop [3, 4] (fun n i => ∃ k : Nat, k ≤ l.length ∧ i = .int .i64 ((k : Int) - 1) ∧ n = .int .u64 (W1.num (l.drop k) : Int)) (fun _ i => (intOf i + 1).toNat)
  case atStart => exact ⟨l.length, Nat.le_refl _, rfl, by rw [List.drop_length]; rfl⟩
  case round =>
    obtain ⟨k, hk, rfl, rfl⟩ := hrel
    cases k with
    | zero =>
      go_wp2
      go_ret
      exact ⟨rfl, rfl⟩
    | succ k =>
      have hlt : k < l.length := by omega
      have hcx := hc k hlt
      have hn := num_drop l k hlt
      have h7 := num_drop_lt7 l k hl
      have hget : l.getD k 0 = l[k] := by simp [List.getD, List.getElem?_eq_getElem hlt]
      rw [hget] at hcx
      have hx := l[k].toNat_lt
      have HN : Hid _ := hn
      generalize l[k].toNat = X at *
      generalize W1.num (l.drop (k + 1)) = Y at *
      rw [show ((k + 1 : Nat) : Int) - 1 = (k : Int) by omega]
      clear hn hget hc
      go_wp2
      go_round
      case rel =>
        refine ⟨k, by omega, by go_num, ?_⟩
        rw [HN.out]
        congr 1
        omega
      case measure => simp [intOf]
end Go.Proofs.YtkpjfhphohanlaaGreatDoor.EC
