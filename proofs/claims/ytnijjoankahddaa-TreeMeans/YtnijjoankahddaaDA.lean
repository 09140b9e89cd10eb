/- tree: numbers in own memory; pages, leaves; Way, Beside of the program and of the document; the statements' num and same. -/
import Derived.Test.YtnijjoankahddaaMA
import Derived.Deep.AppendLies
set_option linter.unusedVariables false
set_option linter.unusedSimpArgs false
namespace Go.Proofs.Ytnijjoankahddaa.DC
open Go.RowKit

def I64 (x : Int) : Value := .int .i64 x
theorem add_none (b o j : Nat) : (⟨b, o, none⟩ : Addr).add j = ⟨b, o + j, none⟩ := by unfold Addr.add; split <;> simp_all
/-- Numbers that can be read. -/
def HI (w : World) (v : Value) (ls : List Int) : Prop := ∃ p cap, v = .slice p ls.length cap ∧ ∀ i x, ls[i]? = some x → ∃ b o, p = some ⟨b, o, none⟩ ∧ w.cell? ⟨b, o + i, none⟩ = some (.int .i64 x)
/-- Numbers in own memory, from the block 'base' on. -/
def FI (base : Nat) (w : World) (v : Value) (ls : List Int) : Prop := w.ownsRow base 3 1 v ls.length (ls.map I64)
theorem infoI : (Try.prog.info? 3).map (fun i => (i.zero, i.size, i.bytes)) = some (some (.int .i64 0), 1, 8) := by kernel_rfl
theorem FI.hi {base : Nat} {w : World} {v : Value} {ls : List Int} (h : FI base w v ls) : HI w v ls := by
  rcases h.2 with ⟨h1, h2⟩ | ⟨g, cap, cur, h1, h2, h3, h4, h5, h6⟩
  · have : ls = [] := List.eq_nil_of_length_eq_zero h2
    subst this
    exact ⟨none, 0, h1, fun i a ha => by simp at ha⟩
  · refine ⟨some ⟨g, 0, none⟩, cap, h1, fun i a ha => ⟨g, 0, rfl, ?_⟩⟩
    have hi := (List.getElem?_eq_some_iff.1 ha).1
    subst h1
    rw [Nat.zero_add, World.ownsRow.cellAt h i (by omega), List.getElem?_map, ha]; rfl
theorem FI.keep {base : Nat} {w w' : World} {v : Value} {ls : List Int} (h : FI base w v ls) (hk : ∀ j, v.ownBlock = some j → w'.heap[j]? = w.heap[j]?) : FI base w' v ls := by
  obtain ⟨h1, h2⟩ := h
  refine ⟨h1, ?_⟩
  rcases h2 with h2 | ⟨g, cap, cur, hv, hg, hh, r⟩
  · exact .inl h2
  · exact .inr ⟨g, cap, cur, hv, hg, (hk g (by rw [hv]; rfl)).trans hh, r⟩
theorem FI.below {base : Nat} {w w' : World} {v : Value} {ls : List Int} (h : FI base w v ls) (hb : Below w.heap.size w w') : FI base w' v ls :=
  h.keep fun j hj => hb.block _ (World.ownsRow.lt h j hj).2
theorem HI.keep {w w' : World} {v : Value} {ls : List Int} (h : HI w v ls) (hb : Below w.heap.size w w') : HI w' v ls := by
  obtain ⟨p, cap, h1, h2⟩ := h
  refine ⟨p, cap, h1, fun i x hx => ?_⟩
  obtain ⟨b, o, h3, h4⟩ := h2 i x hx
  exact ⟨b, o, h3, (hb.cell (block_lt h4)).trans h4⟩
theorem FI.nil (base : Nat) (w : World) (h : base ≤ w.heap.size) : FI base w (.slice none 0 0) [] := ⟨rfl, .inl ⟨rfl, rfl⟩⟩
/-- append(s, x). -/
theorem wpList_appI {ops : Array Oper} {rest : List Oper} {o : Oper} {a : Act} {Q : Exit → Act → World → Prop} {W : World} (hgd : o.guard = none) (s x : Operand) (ho : o.op = .call { callee := .builtin .append, args := #[s, x], argTypes := #[58, 58] })
    (base : Nat) (v : Value) (l : List Int) (k : Int) (hs : a.eval s = v) (hx : a.eval x = .slice (some ⟨W.heap.size, 0, none⟩) 1 1) (hown : FI base W v l) (hl : l.length ≤ 1000) (hbase : base ≤ W.heap.size)
    (h : ∀ b cap w', FI base w' (.slice (some ⟨b, 0, none⟩) (l.length + 1) cap) (l ++ [k]) → (W.alloc (.cells #[.int .i64 k] 3)).grownBy w' v.ownBlock → wpList Try.prog ops Q rest (a.put o.dst (.slice (some ⟨b, 0, none⟩) (l.length + 1) cap)) w') :
    wpList Try.prog ops Q (o :: rest) a (W.alloc (.cells #[.int .i64 k] 3)) := by
  obtain ⟨i0, hi, hz0, hz1, hz2⟩ := info_parts infoI
  refine wpList_append_lies _ hgd s x 58 ho base 3 i0 (.int .i64 0) 1 8 Try.underlying58 hi hz0 hz1 hz2 rfl (by decide) v _ _ hs (World.ownsRow.alloc hown _) ⟨W.heap.size, 0, none⟩ 1 1 [.int .i64 k] hx rfl (fun j u hu => ?_) (fun u hu => by simp at hu; subst hu; rfl) (by decide) (by unfold maxLen; omega) (by omega) (by simp; omega) (W.heap.size + 1) (by simp) ?_
  · rw [add_none]
    exact MC.rangeAt_row (cs := [.int .i64 k]) (heap_alloc_new _ _) j u hu
  intro b cap w' h1 h2 h3 h4
  refine h b cap w' ?_ h2
  unfold FI
  rw [List.length_append, List.map_append]
  simpa [I64] using h1

theorem num_any (n : Int) (w : World) : Calls Try.prog 13 #[.int .i64 n] w fun x w' => x = .returned (.int .i64 n) ∧ w = w' := by
  go_enter Try.func13, Try.ntmps13
  go_wp2
  go_ret
  exact ⟨rfl, rfl⟩
def mayP (pg : Int) : Bool := decide (0 ≤ pg ∧ pg < 128)
theorem isPage_any (pg : Int) (w : World) : Calls Try.prog 35 #[.int .i64 pg] w fun e w' => e = .returned (.bool (mayP pg)) ∧ w' = w := by
  by_cases h : 0 ≤ pg
  · by_cases h2 : pg < 128
    · have hd : mayP pg = true := decide_eq_true ⟨h, h2⟩
      rw [hd]
      clear hd
      go_enter Try.func35, Try.ntmps35
      go_wp2
      go_ret
      exact ⟨rfl, rfl⟩
    · have hd : mayP pg = false := decide_eq_false (fun h => h2 h.2)
      rw [hd]
      clear hd
      go_enter Try.func35, Try.ntmps35
      go_wp2
      go_ret
      exact ⟨rfl, rfl⟩
  · have hd : mayP pg = false := decide_eq_false (fun h2 => h h2.1)
    rw [hd]
    clear hd
    go_enter Try.func35, Try.ntmps35
    go_wp2
    go_ret
    exact ⟨rfl, rfl⟩
theorem mayPage_any (pg : Int) (w : World) : Calls Try.prog 8 #[.int .i64 pg] w fun e w' => e = .returned (.bool (mayP pg)) ∧ w' = w := by
  by_cases h : 0 ≤ pg
  · by_cases h2 : pg < 128
    · have hd : mayP pg = true := decide_eq_true ⟨h, h2⟩
      rw [hd]
      clear hd
      go_enter Try.func8, Try.ntmps8
      go_wp2
      go_ret
      exact ⟨rfl, rfl⟩
    · have hd : mayP pg = false := decide_eq_false (fun h => h2 h.2)
      rw [hd]
      clear hd
      go_enter Try.func8, Try.ntmps8
      go_wp2
      go_ret
      exact ⟨rfl, rfl⟩
  · have hd : mayP pg = false := decide_eq_false (fun h2 => h h2.1)
    rw [hd]
    clear hd
    go_enter Try.func8, Try.ntmps8
    go_wp2
    go_ret
    exact ⟨rfl, rfl⟩
theorem mayP_nat {pg : Int} (h : mayP pg = true) : ∃ p : Nat, pg = (p : Int) ∧ p < 128 := by
  have := of_decide_eq_true h
  exact ⟨pg.toNat, by omega, by omega⟩
theorem leafOf_any (p : Nat) (hp : p < 128) (w : World) : Calls Try.prog 31 #[.int .i64 (p : Int)] w fun e w' => e = .returned (.int .i64 ((128 + p : Nat) : Int)) ∧ w' = w := by
  have h1 : IntKind.i64.wrap (128 + (p : Int)) = ((128 + p : Nat) : Int) := by rw [IntKind.wrap_i64]; omega
  go_enter Try.func31, Try.ntmps31
  go_wp2
  go_ret
  exact ⟨rfl, rfl⟩
/-- The other one of two. -/
def bes (i : Nat) : Nat := if i % 2 = 0 then i + 1 else i - 1
theorem xor_one (i : Nat) (h : i < 256) : i ^^^ 1 = bes i := by
  have : ∀ i, i < 256 → i ^^^ 1 = bes i := by decide +kernel
  exact this i h
def wayL (p : Nat) : List Int := (List.range 8).map fun k => (((128 + p) / 2 ^ k : Nat) : Int)
def besL (p : Nat) : List Int := (List.range 7).map fun k => (bes ((128 + p) / 2 ^ k) : Int)
theorem way_bd (p k : Nat) (hp : p < 128) : (128 + p) / 2 ^ k < 256 := Nat.lt_of_le_of_lt (Nat.div_le_self _ _) (by omega)
end Go.Proofs.Ytnijjoankahddaa.DC
