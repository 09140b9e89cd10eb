/- cpu: what the document makes of a text: mathematics. -/
import Derived.Test.YtpklboicgjpmeaaDoorJB
set_option linter.unusedVariables false
set_option linter.unusedSimpArgs false
namespace Go.Proofs.YtpklboicgjpmeaaDoor.JC

/-- A text's parts, between blanks. -/
def splitR : List UInt8 → List (List UInt8)
  | [] => [[]]
  | x :: l => if x == 32 then [] :: splitR l else cnl x (splitR l)
theorem splitR_no : ∀ {l : List UInt8}, (32 : UInt8) ∉ l → splitR l = [l]
  | [], _ => rfl
  | x :: l, h => by
    have hx : ¬ (x == 32) = true := fun e => h (by rw [show x = 32 by simpa using e]; exact List.mem_cons_self ..)
    unfold splitR
    rw [if_neg hx, splitR_no (l := l) (fun e => h (List.mem_cons_of_mem _ e))]; rfl
theorem splitR_at (r : List UInt8) : ∀ {l : List UInt8}, (32 : UInt8) ∉ l → splitR (l ++ 32 :: r) = l :: splitR r
  | [], _ => by show (if ((32 : UInt8) == 32) = true then _ else _) = _; rw [if_pos (by decide)]
  | x :: l, h => by
    have hx : ¬ (x == 32) = true := fun e => h (by rw [show x = 32 by simpa using e]; exact List.mem_cons_self ..)
    rw [List.cons_append]
    show (if (x == 32) = true then _ else cnl x (splitR (l ++ 32 :: r))) = _
    rw [if_neg hx, splitR_at r (l := l) (fun e => h (List.mem_cons_of_mem _ e))]; rfl
theorem splitR_len : ∀ l : List UInt8, (splitR l).length ≤ l.length + 1
  | [] => Nat.le_refl _
  | x :: l => by
    have := splitR_len l
    unfold splitR
    split
    · simp; omega
    · rw [cnl_len]; split
      · omega
      · simp; omega
/-- The digits of a text, as a number; what is none is passed by. -/
def fdg (l : List UInt8) : Nat := l.foldl (fun n c => if 48 ≤ c.toNat ∧ c.toNat ≤ 57 then n * 10 + (c.toNat - 48) else n) 0
theorem fdg_snoc (l : List UInt8) (c : UInt8) : fdg (l ++ [c]) = if 48 ≤ c.toNat ∧ c.toNat ≤ 57 then fdg l * 10 + (c.toNat - 48) else fdg l := by
  unfold fdg; rw [List.foldl_append]; rfl
theorem fdg_bd : ∀ (k : Nat) (l : List UInt8), l.length = k → fdg l < 10 ^ k
  | 0, l, h => by rw [List.eq_nil_of_length_eq_zero h]; decide
  | k + 1, l, h => by
    have hne : l ≠ [] := by intro e; rw [e] at h; simp at h
    have hc := List.dropLast_concat_getLast hne
    have hl : l.dropLast.length = k := by simp [h]
    have ih := fdg_bd k l.dropLast hl
    rw [← hc, fdg_snoc, Nat.pow_succ]
    split <;> omega
/-- What the document reads as a number. -/
def numR (s : List UInt8) : Int := if s.head? = some 45 then -(fdg (s.take 12) : Int) else (fdg (s.take 12) : Int)
theorem fdg_dec : ∀ u : Nat, fdg (Lib.decDigits u) = u := by
  intro u
  induction u using Nat.strongRecOn with
  | ind u ih =>
    rw [Lib.decDigits]
    split
    · next h =>
      have e : (UInt8.ofNat (48 + u)).toNat = 48 + u := by simp [UInt8.toNat_ofNat]; omega
      show fdg ([] ++ [UInt8.ofNat (48 + u)]) = u
      rw [fdg_snoc, e, if_pos (by omega)]
      show 0 * 10 + _ = u; omega
    · next h =>
      have e : (UInt8.ofNat (48 + u % 10)).toNat = 48 + u % 10 := by simp [UInt8.toNat_ofNat]; omega
      rw [fdg_snoc, ih (u / 10) (by omega), e, if_pos (by omega)]; omega
theorem qdec_len : ∀ (k : Nat) (u : Nat), u < 10 ^ (k + 1) → (Lib.decDigits u).length ≤ k + 1
  | 0, u, h => by
    have h1 : u < 10 := by simpa using h
    rw [Lib.decDigits]
    split
    · simp
    · omega
  | k + 1, u, h => by
    rw [Lib.decDigits]
    split
    · simp
    · have := qdec_len k (u / 10) (by rw [Nat.pow_succ] at h; omega)
      simp; omega
theorem fdg_45 (l : List UInt8) : fdg (45 :: l) = fdg l := by
  unfold fdg; rw [List.foldl_cons]; rfl
theorem numR_itoa (n : Int) (h0 : -2147483648 ≤ n) (h1 : n ≤ 2147483647) : numR (Lib.itoa n) = n := by
  by_cases hn : n < 0
  · obtain ⟨u, hu, rfl⟩ : ∃ u : Nat, 1 ≤ u ∧ n = -(u : Int) := ⟨n.natAbs, by omega, by omega⟩
    rw [Lib.itoa_neg u hu]
    have hl := qdec_len 9 u (by omega)
    unfold numR
    rw [if_pos (by rfl), List.take_of_length_le (by simp; omega), fdg_45, fdg_dec]
  · obtain ⟨u, rfl⟩ : ∃ u : Nat, n = (u : Int) := ⟨n.toNat, by omega⟩
    rw [Lib.itoa_nonneg u]
    have hl := qdec_len 9 u (by omega)
    unfold numR
    rw [if_neg, List.take_of_length_le (by omega), fdg_dec]
    intro e
    cases hd : Lib.decDigits u with
    | nil => rw [hd] at e; simp at e
    | cons c r =>
      rw [hd] at e
      have hc : c = 45 := by simpa using e
      have := dec_dg u c (by rw [hd]; exact List.mem_cons_self ..)
      unfold dg at this
      rw [hc] at this
      simp at this
theorem numR_bd (s : List UInt8) : -1000000000000 < numR s ∧ numR s < 1000000000000 := by
  have h : fdg (s.take 12) < 10 ^ 12 := Nat.lt_of_lt_of_le (fdg_bd _ _ rfl) (Nat.pow_le_pow_right (by decide) (by rw [List.length_take]; omega))
  unfold numR
  split <;> omega
/-- A part's number: ahead of Imm a letter stands. -/
def pv (k : Nat) (w : List UInt8) : Int := if k < 3 ∧ w ≠ [] then numR (w.drop 1) else numR w
def fk (op : Int) (k : Nat) : Bool := match k with | 0 => fd op | 1 => fa op | 2 => fb op | _ => fi op
def setI (i : Ins) (k : Nat) (n : Int) : Ins := match k with | 0 => { i with d := n } | 1 => { i with a := n } | 2 => { i with b := n } | _ => { i with imm := n }
/-- What a text might be, by an operation: which part is read next, and the instruction, behind k of the four. -/
def cS (op : Int) (ps : List (List UInt8)) : Nat → Nat × Ins
  | 0 => (1, ⟨op, 0, 0, 0, 0⟩)
  | k + 1 => if fk op k = true ∧ (cS op ps k).1 < ps.length then ((cS op ps k).1 + 1, setI (cS op ps k).2 k (pv k (ps.getD (cS op ps k).1 []))) else cS op ps k
def cand (op : Int) (s : List UInt8) : Ins := (cS op (splitR s) 4).2
theorem setI_op (i : Ins) (k : Nat) (n : Int) : (setI i k n).op = i.op := by unfold setI; split <;> rfl
theorem cS_op (op : Int) (ps : List (List UInt8)) : ∀ k, (cS op ps k).2.op = op
  | 0 => rfl
  | k + 1 => by
    unfold cS
    split
    · show (setI _ _ _).op = op; rw [setI_op]; exact cS_op op ps k
    · exact cS_op op ps k
theorem cS_at (op : Int) (ps : List (List UInt8)) : ∀ k, (cS op ps k).1 ≤ k + 1
  | 0 => Nat.le_refl _
  | k + 1 => by
    have := cS_at op ps k
    unfold cS
    split
    · show (cS op ps k).1 + 1 ≤ _; omega
    · omega
/-- The parts behind a part. -/
def spT (l : List UInt8) : List (List UInt8) := if l = [] then [] else splitR (l.drop 1)
theorem split_tl {w l : List UInt8} (hw : (32 : UInt8) ∉ w) (h : tl l) : splitR (w ++ l) = w :: spT l := by
  rcases h with rfl | ⟨r, rfl⟩
  · rw [List.append_nil, splitR_no hw]; rfl
  · rw [splitR_at r hw]; unfold spT; rw [if_neg (by simp)]; rfl
theorem spT_rw (f : Bool) (x : Int) {l : List UInt8} (h : tl l) : spT (rw_ f x ++ l) = (if f then [114 :: Lib.itoa x] else []) ++ spT l := by
  unfold rw_
  cases f with
  | false => simp
  | true =>
    have e : (32 :: 114 :: Lib.itoa x) ++ l = 32 :: ((114 :: Lib.itoa x) ++ l) := rfl
    simp only [if_true]
    rw [e]
    unfold spT
    rw [if_neg (by simp)]
    show splitR ((114 :: Lib.itoa x) ++ l) = _
    rw [split_tl (no32r x) h]
    rfl
theorem spT_iw (f : Bool) (x : Int) : spT (iw f x) = if f then [Lib.itoa x] else [] := by
  unfold iw
  cases f with
  | false => rfl
  | true =>
    simp only [if_true]
    unfold spT
    rw [if_neg (by simp)]
    show splitR (Lib.itoa x) = _
    rw [splitR_no (no32 x)]
theorem split_txt {i : Ins} (h : may i = true) : splitR (txt i) = nm i.op :: ((if fd i.op then [114 :: Lib.itoa i.d] else []) ++ ((if fa i.op then [114 :: Lib.itoa i.a] else []) ++ ((if fb i.op then [114 :: Lib.itoa i.b] else []) ++ (if fi i.op then [Lib.itoa i.imm] else [])))) := by
  obtain ⟨h0, _⟩ := may_parts h
  unfold txt
  rw [split_tl (nm32 h0) (tl_rw _ _ (tl_rw _ _ (tl_rw _ _ (tl_iw _ _)))), spT_rw _ _ (tl_rw _ _ (tl_rw _ _ (tl_iw _ _))), spT_rw _ _ (tl_rw _ _ (tl_iw _ _)), spT_rw _ _ (tl_iw _ _), spT_iw]
theorem pv_r (k : Nat) (hk : k < 3) (x : Int) (h0 : -2147483648 ≤ x) (h1 : x ≤ 2147483647) : pv k (114 :: Lib.itoa x) = x := by
  unfold pv; rw [if_pos ⟨hk, by simp⟩]; exact numR_itoa x h0 h1
theorem pv_i (x : Int) (h0 : -2147483648 ≤ x) (h1 : x ≤ 2147483647) : pv 3 (Lib.itoa x) = x := by
  unfold pv; rw [if_neg (by omega)]; exact numR_itoa x h0 h1
/-- A text of an instruction is made it again, by its operation. -/
theorem cand_txt {i : Ins} (h : may i = true) : cand i.op (txt i) = i := by
  have hb := may_bd h
  obtain ⟨h0, h1, h2, h3, h4⟩ := may_parts h
  obtain ⟨op, d, a, b, imm⟩ := i
  simp only at hb h0 h1 h2 h3 h4 ⊢
  unfold cand
  rw [split_txt h]
  simp only
  have ed := fun hf : fd op = false => (show d = 0 by unfold rg at h2; rw [hf] at h2; simpa using h2)
  have ea := fun hf : fa op = false => (show a = 0 by unfold rg at h3; rw [hf] at h3; simpa using h3)
  have eb := fun hf : fb op = false => (show b = 0 by unfold rg at h4; rw [hf] at h4; simpa using h4)
  have em := fun hf : fi op = false => (show imm = 0 by unfold im at h1; rw [hf] at h1; simpa using h1)
  have pd := pv_r 0 (by decide) d (by omega) (by omega)
  have pa := pv_r 1 (by decide) a (by omega) (by omega)
  have pb := pv_r 2 (by decide) b (by omega) (by omega)
  have pm := pv_i imm (by omega) (by omega)
  generalize 114 :: Lib.itoa d = wd at *
  generalize 114 :: Lib.itoa a = wa at *
  generalize 114 :: Lib.itoa b = wb at *
  generalize Lib.itoa imm = wm at *
  cases hd : fd op <;> cases ha : fa op <;> cases hb2 : fb op <;> cases hm : fi op <;>
    simp [cS, fk, setI, hd, ha, hb2, hm, pd, pa, pb, pm] <;>
    (try (first | rw [ed hd] | skip)) <;> simp_all
theorem qitoa_len (n : Int) (h0 : -2147483648 ≤ n) (h1 : n ≤ 2147483647) : (Lib.itoa n).length ≤ 11 := by
  by_cases hn : n < 0
  · obtain ⟨u, hu, rfl⟩ : ∃ u : Nat, 1 ≤ u ∧ n = -(u : Int) := ⟨n.natAbs, by omega, by omega⟩
    rw [Lib.itoa_neg u hu]
    have hl := qdec_len 9 u (by omega)
    simp; omega
  · obtain ⟨u, rfl⟩ : ∃ u : Nat, n = (u : Int) := ⟨n.toNat, by omega⟩
    rw [Lib.itoa_nonneg u]
    have hl := qdec_len 9 u (by omega)
    omega
theorem qnm_len {op : Int} (h : isOp op = true) : (nm op).length ≤ 7 := by
  rcases isOp_cases h with rfl | rfl | rfl | rfl | rfl | rfl | rfl | rfl | rfl | rfl | rfl | rfl | rfl | rfl | rfl | rfl | rfl <;> decide
theorem qrw_len (f : Bool) (x : Int) (h0 : -2147483648 ≤ x) (h1 : x ≤ 2147483647) : (rw_ f x).length ≤ 13 := by
  have := qitoa_len x h0 h1
  unfold rw_; split <;> simp <;> omega
theorem qiw_len (f : Bool) (x : Int) (h0 : -2147483648 ≤ x) (h1 : x ≤ 2147483647) : (iw f x).length ≤ 12 := by
  have := qitoa_len x h0 h1
  unfold iw; split <;> simp <;> omega
/-- A text of an instruction is short. -/
theorem txt_len {i : Ins} (h : may i = true) : (txt i).length ≤ 60 := by
  have hb := may_bd h
  obtain ⟨h0, h1, h2, h3, h4⟩ := may_parts h
  have a0 := qnm_len h0
  have a1 := qrw_len (fd i.op) i.d (by omega) (by omega)
  have a2 := qrw_len (fa i.op) i.a (by omega) (by omega)
  have a3 := qrw_len (fb i.op) i.b (by omega) (by omega)
  have a4 := qiw_len (fi i.op) i.imm (by omega) (by omega)
  unfold txt
  simp only [List.length_append]
  omega
theorem unt_long {s : List UInt8} (h : 60 < s.length) : unt s = none := by
  cases hu : unt s with
  | none => rfl
  | some i =>
    obtain ⟨h1, h2⟩ := unt_some hu
    have := txt_len h1
    rw [h2] at this; omega
theorem unt_hit {s : List UInt8} {i : Ins} (h1 : may i = true) (h2 : txt i = s) : unt s = some i := by
  rw [← h2, unt_txt h1]
/-- No operation behind op makes the text. -/
def noHit (s : List UInt8) (k : Nat) : Prop := ∀ j : Nat, 1 ≤ j → j < k → ¬ (may (cand (j : Int) s) = true ∧ txt (cand (j : Int) s) = s)
theorem noHit_1 (s : List UInt8) : noHit s 1 := fun j h1 h2 => by omega
theorem noHit_step {s : List UInt8} {k : Nat} (h : noHit s k) (hn : ¬ (may (cand (k : Int) s) = true ∧ txt (cand (k : Int) s) = s)) : noHit s (k + 1) := fun j h1 h2 => by
  by_cases e : j = k
  · rw [e]; exact hn
  · exact h j h1 (by omega)
theorem noHit_all {s : List UInt8} (h : noHit s 18) : unt s = none := by
  cases hu : unt s with
  | none => rfl
  | some i =>
    obtain ⟨h1, h2⟩ := unt_some hu
    obtain ⟨h0, _⟩ := may_parts h1
    have hop : 1 ≤ i.op ∧ i.op ≤ 17 := by rcases isOp_cases h0 with e | e | e | e | e | e | e | e | e | e | e | e | e | e | e | e | e <;> rw [e] <;> decide
    have hc := cand_txt h1
    rw [h2] at hc
    have := h i.op.toNat (by omega) (by omega)
    rw [show ((i.op.toNat : Nat) : Int) = i.op by omega, hc] at this
    exact absurd ⟨h1, h2⟩ this
end Go.Proofs.YtpklboicgjpmeaaDoor.JC
