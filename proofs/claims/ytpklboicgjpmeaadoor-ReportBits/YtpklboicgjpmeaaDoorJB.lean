/- cpu: lines of a text, words of a program: mathematics. -/
import Derived.Test.YtpklboicgjpmeaaDoorJA
set_option linter.unusedVariables false
set_option linter.unusedSimpArgs false
namespace Go.Proofs.YtpklboicgjpmeaaDoor.JC

def cnl (x : UInt8) : List (List UInt8) → List (List UInt8)
  | [] => [[x]]
  | h :: t => (x :: h) :: t
/-- A text's lines, the last one perhaps without its end. -/
def lns : List UInt8 → List (List UInt8)
  | [] => []
  | x :: l => if x == 10 then [] :: lns l else cnl x (lns l)
theorem cnl_len (x : UInt8) (l : List (List UInt8)) : (cnl x l).length = if l = [] then 1 else l.length := by
  cases l <;> simp [cnl]
theorem lns_cut : ∀ {s : List UInt8}, s ≠ [] → lns s = ct1 10 s :: lns (ct2 10 s)
  | [], h => absurd rfl h
  | x :: l, _ => by
    have e0 : lns (x :: l) = if x == 10 then [] :: lns l else cnl x (lns l) := rfl
    have e1 : ct1 10 (x :: l) = if x == 10 then [] else x :: ct1 10 l := rfl
    have e2 : ct2 10 (x :: l) = if x == 10 then l else ct2 10 l := rfl
    rw [e0, e1, e2]
    by_cases hx : (x == 10) = true
    · rw [if_pos hx, if_pos hx, if_pos hx]
    · rw [if_neg hx, if_neg hx, if_neg hx]
      cases l with
      | nil => rfl
      | cons y r => rw [lns_cut (s := y :: r) (by simp)]; rfl
theorem lns_ne {s : List UInt8} (h : s ≠ []) : lns s ≠ [] := by rw [lns_cut h]; simp
/-- How many lines there are. -/
theorem lns_count : ∀ (s : List UInt8), (lns s).length = s.count 10 + (if s = [] ∨ s.getLast? = some 10 then 0 else 1)
  | [] => rfl
  | x :: l => by
    have ih := lns_count l
    unfold lns
    by_cases hx : (x == 10) = true
    · have e : x = 10 := by simpa using hx
      rw [if_pos hx, List.length_cons, ih, List.count_cons, if_pos hx]
      cases l with
      | nil => simp [e]
      | cons y r =>
        rw [List.getLast?_cons_cons]
        simp only [reduceCtorEq, false_or]
        omega
    · rw [if_neg hx, cnl_len, List.count_cons, if_neg hx]
      cases l with
      | nil =>
        have e : x ≠ 10 := by simpa using hx
        simp [lns, e]
      | cons y r =>
        rw [if_neg (lns_ne (by simp)), ih, List.getLast?_cons_cons]
        simp only [reduceCtorEq, false_or, Nat.add_zero]
theorem suffix10 (s : List UInt8) : Lib.hasSuffix s [10] = decide (s.getLast? = some 10) := by
  unfold Lib.hasSuffix
  rw [Bool.eq_iff_iff, List.isSuffixOf_iff_suffix]
  simp only [decide_eq_true_eq]
  constructor
  · rintro ⟨t, rfl⟩; simp
  · intro h
    obtain ⟨t, ht⟩ := List.getLast?_eq_some_iff.1 h
    exact ⟨t, ht.symm⟩
/-- The text of some lines, each with its end. -/
def lt_ : List (List UInt8) → List UInt8
  | [] => []
  | l :: r => l ++ (10 :: lt_ r)
theorem lt_snoc (x : List UInt8) : ∀ l : List (List UInt8), lt_ (l ++ [x]) = lt_ l ++ (x ++ [10])
  | [] => by simp [lt_]
  | y :: l => by rw [List.cons_append]; unfold lt_; rw [lt_snoc x l]; simp
theorem lns_lt : ∀ l : List (List UInt8), (∀ x ∈ l, (10 : UInt8) ∉ x) → lns (lt_ l) = l
  | [], _ => rfl
  | x :: l, h => by
    have hx := h x (List.mem_cons_self ..)
    unfold lt_
    rw [lns_cut (by simp), (ct_at (lt_ l) hx).1, (ct_at (lt_ l) hx).2, lns_lt l fun y hy => h y (List.mem_cons_of_mem _ hy)]
theorem txt10 {i : Ins} (h : may i = true) : (10 : UInt8) ∉ txt i := by
  obtain ⟨h0, _⟩ := may_parts h
  have hr : ∀ f x, (10 : UInt8) ∉ rw_ f x := fun f x => by
    unfold rw_; split
    · intro hh
      rcases List.mem_cons.1 hh with e | hh
      · exact absurd e (by decide)
      · rcases List.mem_cons.1 hh with e | hh
        · exact absurd e (by decide)
        · exact no10 _ hh
    · simp
  have hi : ∀ f x, (10 : UInt8) ∉ iw f x := fun f x => by
    unfold iw; split
    · intro hh
      rcases List.mem_cons.1 hh with e | hh
      · exact absurd e (by decide)
      · exact no10 _ hh
    · simp
  unfold txt
  simp only [List.mem_append, not_or]
  exact ⟨nm10 h0, hr _ _, hr _ _, hr _ _, hi _ _⟩

/-! Words. -/
def sx (x : Int) : Int := if 2147483648 ≤ x then x - 4294967296 else x
/-- What stands in a word. -/
def wi (w : Int) : Ins := ⟨w % 256, w / 256 % 256, w / 65536 % 256, w / 16777216 % 256, sx (w / 4294967296)⟩
def dec (w : Int) : Option Ins := if may (wi w) = true then some (wi w) else none
theorem may_bd {i : Ins} (h : may i = true) : 1 ≤ i.op ∧ i.op ≤ 17 ∧ 0 ≤ i.d ∧ i.d < 8 ∧ 0 ≤ i.a ∧ i.a < 8 ∧ 0 ≤ i.b ∧ i.b < 8 ∧ -2147483648 ≤ i.imm ∧ i.imm ≤ 2147483647 := by
  obtain ⟨h0, h1, h2, h3, h4⟩ := may_parts h
  unfold isOp at h0; unfold im at h1; unfold rg at h2 h3 h4
  simp at h0 h1 h2 h3 h4
  omega
theorem wrd_eq {i : Ins} (h : may i = true) : wrd i = i.op + i.d * 256 + i.a * 65536 + i.b * 16777216 + (i.imm % 4294967296) * 4294967296 := by
  obtain ⟨h1, h2, h3, h4, h5, h6, h7, h8, h9, ha⟩ := may_bd h
  unfold wrd; omega
theorem wi_wrd {i : Ins} (h : may i = true) : wi (wrd i) = i := by
  obtain ⟨h1, h2, h3, h4, h5, h6, h7, h8, h9, ha⟩ := may_bd h
  have e := wrd_eq h
  have hm : 0 ≤ i.imm % 4294967296 ∧ i.imm % 4294967296 < 4294967296 := by omega
  generalize wrd i = w at e
  unfold wi
  refine Ins.eq ?_ ?_ ?_ ?_ ?_
  · show w % 256 = _; omega
  · show w / 256 % 256 = _; omega
  · show w / 65536 % 256 = _; omega
  · show w / 16777216 % 256 = _; omega
  · show sx (w / 4294967296) = _
    have : w / 4294967296 = i.imm % 4294967296 := by omega
    rw [this]; unfold sx; split <;> omega
theorem dec_wrd {i : Ins} (h : may i = true) : dec (wrd i) = some i := by
  unfold dec; rw [wi_wrd h, if_pos h]
theorem dec_some {w : Int} {i : Ins} (h : dec w = some i) : may i = true ∧ wi w = i := by
  unfold dec at h; split at h
  · next hh => cases h; exact ⟨hh, rfl⟩
  · cases h
theorem wrd_wi {w : Int} (h0 : 0 ≤ w) (h1 : w < 18446744073709551616) : wrd (wi w) = w := by
  unfold wrd wi sx; simp only
  split <;> omega
theorem dec_word {w : Int} {i : Ins} (h0 : 0 ≤ w) (h1 : w < 18446744073709551616) (h : dec w = some i) : wrd i = w := by
  rw [← (dec_some h).2]; exact wrd_wi h0 h1

/-! Programs. -/
/-- The words of the lines up to the first that is none's. -/
def gd : List (List UInt8) → List Int
  | [] => []
  | l :: r => match unt l with | some i => wrd i :: gd r | none => []
def okL (l : List (List UInt8)) : Bool := l.all fun x => (unt x).isSome
theorem gd_len : ∀ {l : List (List UInt8)}, okL l = true → (gd l).length = l.length
  | [], _ => rfl
  | x :: l, h => by
    unfold okL at h
    simp only [List.all_cons, Bool.and_eq_true] at h
    obtain ⟨i, hi⟩ := Option.isSome_iff_exists.1 h.1
    unfold gd; rw [hi]
    show (gd l).length + 1 = _
    rw [gd_len (l := l) h.2]; rfl
/-- What words tell. -/
def lsW : List Int → Option (List (List UInt8))
  | [] => some []
  | w :: r => match dec w with | none => none | some i => match lsW r with | none => none | some t => some (txt i :: t)
theorem lsW_10 : ∀ {l : List Int} {t}, lsW l = some t → ∀ x ∈ t, (10 : UInt8) ∉ x
  | [], t, h, x, hx => by unfold lsW at h; cases h; exact absurd hx (by simp)
  | w :: r, t, h, x, hx => by
    unfold lsW at h
    cases hd : dec w with
    | none => rw [hd] at h; cases h
    | some i =>
      rw [hd] at h
      cases hr : lsW r with
      | none => rw [hr] at h; cases h
      | some u =>
        rw [hr] at h; cases h
        rcases List.mem_cons.1 hx with rfl | hx
        · exact txt10 (dec_some hd).1
        · exact lsW_10 hr x hx
theorem lsW_gd : ∀ {l : List Int} {t}, (∀ w ∈ l, 0 ≤ w ∧ w < 18446744073709551616) → lsW l = some t → gd t = l ∧ okL t = true
  | [], t, _, h => by unfold lsW at h; cases h; exact ⟨rfl, rfl⟩
  | w :: r, t, hb, h => by
    unfold lsW at h
    cases hd : dec w with
    | none => rw [hd] at h; cases h
    | some i =>
      rw [hd] at h
      cases hr : lsW r with
      | none => rw [hr] at h; cases h
      | some u =>
        rw [hr] at h; cases h
        obtain ⟨g1, g2⟩ := lsW_gd (fun x hx => hb x (List.mem_cons_of_mem _ hx)) hr
        have hm := (dec_some hd).1
        have hw := dec_word (hb w (List.mem_cons_self ..)).1 (hb w (List.mem_cons_self ..)).2 hd
        constructor
        · show (match unt (txt i) with | some i => wrd i :: gd u | none => []) = _
          rw [unt_txt hm, g1]; show wrd i :: r = _; rw [hw]
        · unfold okL at g2 ⊢; simp only [List.all_cons, Bool.and_eq_true]; exact ⟨by rw [unt_txt hm]; rfl, g2⟩
theorem lsW_len : ∀ {l : List Int} {t}, lsW l = some t → t.length = l.length
  | [], t, h => by unfold lsW at h; cases h; rfl
  | w :: r, t, h => by
    unfold lsW at h
    cases hd : dec w with
    | none => rw [hd] at h; cases h
    | some i =>
      rw [hd] at h
      cases hr : lsW r with
      | none => rw [hr] at h; cases h
      | some u => rw [hr] at h; cases h; simp [lsW_len hr]
end Go.Proofs.YtpklboicgjpmeaaDoor.JC
