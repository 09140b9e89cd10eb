/- cpu: words as a text (the program's Listing). -/
import Derived.Test.YtkpjfhphohanlaaGreatDoorLZ
import Derived.Test.YtkpjfhphohanlaaGreatDoorNB
set_option linter.unusedVariables false
set_option linter.unusedSimpArgs false
namespace Go.Proofs.YtkpjfhphohanlaaGreatDoor.JC
open Go.RowKit
open Go.Proofs.YtkpjfhphohanlaaGreatDoor.EC (row_lt heap_at rangeAt_below rangeAt_row ret_bool ret_i64 beq_int)

/-- A builder of this text. -/
def BT (B b : Nat) (l : List UInt8) (w : World) : Prop := Lib.IsBuilderF 68 5 B b (Lib.byteCells l) w
theorem BT.below {B b : Nat} {l : List UInt8} {w w' : World} (h : BT B b l w) (hb : Below w.heap.size w w') : BT B b l w' := by
  have hg : w.grownBy w' none := ⟨hb.os, hb.tape, hb.output, hb.size, fun k hk _ => hb.block k hk⟩
  rcases h with h | h
  · have hl := h.lt
    obtain ⟨h1, v, h2, h3, h4⟩ := h
    exact .inl ⟨h1, v, (hb.block b hl).trans h2, h3.kept hg (Classical.em _), h4⟩
  · have hl := h.lt
    obtain ⟨h1, v, h2, h3, h4⟩ := h
    exact .inr ⟨h1, v, (hb.block b hl).trans h2, h3.kept hg (Classical.em _), h4⟩
theorem BT.new (w : World) : BT w.heap.size w.heap.size [] (w.alloc (.cells #[.pointer none, .slice none 0 0] 68 (0, 0))) :=
  .inl ⟨Nat.le_refl _, _, heap_alloc_new _ _, ⟨rfl, .inl ⟨rfl, rfl⟩⟩, by simp [Value.ownBlock]⟩
theorem lsW_snoc : ∀ (l : List Int) (x : Int) {t : List (List UInt8)} {i : Ins}, lsW l = some t → dec x = some i → lsW (l ++ [x]) = some (t ++ [txt i])
  | [], x, t, i, h, hd => by unfold lsW at h; cases h; show lsW [x] = _; unfold lsW; rw [hd]; rfl
  | y :: r, x, t, i, h, hd => by
    unfold lsW at h
    cases hy : dec y with
    | none => rw [hy] at h; cases h
    | some j =>
      rw [hy] at h
      cases hr : lsW r with
      | none => rw [hr] at h; cases h
      | some u =>
        rw [hr] at h; cases h
        have ih := lsW_snoc r x hr hd
        show lsW (y :: (r ++ [x])) = _
        unfold lsW; rw [hy, ih]; rfl
theorem lsW_no : ∀ (l : List Int) (x : Int), x ∈ l → dec x = none → lsW l = none
  | y :: r, x, hx, hd => by
    unfold lsW
    rcases List.mem_cons.1 hx with rfl | hx
    · rw [hd]
    · cases dec y with
      | none => rfl
      | some j => simp only; rw [lsW_no r x hx hd]
theorem lt_len (i : List (List UInt8)) (h : ∀ x ∈ i, x.length ≤ 60) : (lt_ i).length ≤ 61 * i.length := by
  induction i with
  | nil => simp [lt_]
  | cons x r ih =>
    have h1 := h x (List.mem_cons_self ..)
    have h2 := ih fun y hy => h y (List.mem_cons_of_mem _ hy)
    unfold lt_; simp; omega
theorem lsW_60 : ∀ {l : List Int} {t}, lsW l = some t → ∀ x ∈ t, x.length ≤ 60
  | [], t, h, x, hx => by unfold lsW at h; cases h; exact absurd hx (by simp)
  | w :: r, t, h, x, hx => by
    unfold lsW at h
    cases hd : dec w with
    | none => rw [hd] at h; cases h
    | some i =>
      rw [hd] at h
      cases hr : lsW r with
      | none => rw [hr] at h; cases h
      | some u =>
        rw [hr] at h; cases h
        rcases List.mem_cons.1 hx with rfl | hx
        · exact txt_len (dec_some hd).1
        · exact lsW_60 hr x hx
def lsRes (ls : List Int) : Value := match lsW ls with | some t => .tuple #[sV (lt_ t), .int .i64 0] | none => .tuple #[sV [], .int .i64 4]
end Go.Proofs.YtkpjfhphohanlaaGreatDoor.JC
