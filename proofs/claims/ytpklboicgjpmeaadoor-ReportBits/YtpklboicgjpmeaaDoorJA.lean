/- cpu: instructions, their words and texts, and what is read of a text: mathematics. -/
import Derived.Lib.ParseIntB
import Derived.Lib.ItoaNum
import Derived.Lib.ItoaMem
import Derived.Lib.IndexMore
import Derived.Lib.IndexBytes
set_option linter.unusedVariables false
set_option linter.unusedSimpArgs false
namespace Go.Proofs.YtpklboicgjpmeaaDoor.JC

/-- An instruction. -/
structure Ins where
  op : Int
  d : Int
  a : Int
  b : Int
  imm : Int
theorem Ins.eq {i j : Ins} (h1 : i.op = j.op) (h2 : i.d = j.d) (h3 : i.a = j.a) (h4 : i.b = j.b) (h5 : i.imm = j.imm) : i = j := by
  cases i; cases j; simp_all
def nmL : List (List UInt8) := [[], [110, 111, 112], [115, 101, 116], [109, 111, 118], [97, 100, 100], [115, 117, 98], [120, 111, 114], [97, 110, 100], [109, 117, 108], [115, 104, 108], [115, 104, 114], [108, 111, 97, 100], [115, 116, 111, 114, 101], [106, 117, 109, 112], [98, 114, 97, 110, 99, 104], [101, 110, 116, 114, 111, 112, 121], [115, 101, 114, 118, 105, 99, 101], [115, 116, 111, 112]]
def nm (op : Int) : List UInt8 := nmL.getD op.toNat []
def isOp (op : Int) : Bool := decide (1 ≤ op) && decide (op ≤ 17)
def fd (op : Int) : Bool := decide (2 ≤ op) && decide (op ≤ 11) || decide (op = 15)
def fa (op : Int) : Bool := decide (3 ≤ op) && decide (op ≤ 12) || decide (op = 14)
def fb (op : Int) : Bool := decide (4 ≤ op) && decide (op ≤ 10) || decide (op = 12)
def fi (op : Int) : Bool := decide (op = 2) || decide (11 ≤ op) && decide (op ≤ 14) || decide (op = 16)
def pt (op : Int) : Int := (if fd op then 1 else 0) + (if fa op then 2 else 0) + (if fb op then 4 else 0) + (if fi op then 8 else 0)
def rg (f : Bool) (x : Int) : Bool := decide (x = 0) || f && decide (0 ≤ x) && decide (x < 8)
def im (op x : Int) : Bool := decide (x = 0) || fi op && decide (-2147483648 ≤ x) && decide (x ≤ 2147483647) && (!decide (op = 16) || decide (0 ≤ x))
/-- May it be? -/
def may (i : Ins) : Bool := isOp i.op && im i.op i.imm && rg (fd i.op) i.d && rg (fa i.op) i.a && rg (fb i.op) i.b
theorem isOp_cases {op : Int} (h : isOp op = true) : op = 1 ∨ op = 2 ∨ op = 3 ∨ op = 4 ∨ op = 5 ∨ op = 6 ∨ op = 7 ∨ op = 8 ∨ op = 9 ∨ op = 10 ∨ op = 11 ∨ op = 12 ∨ op = 13 ∨ op = 14 ∨ op = 15 ∨ op = 16 ∨ op = 17 := by
  unfold isOp at h; simp at h; omega
def rw_ (f : Bool) (x : Int) : List UInt8 := if f then 32 :: 114 :: Lib.itoa x else []
def iw (f : Bool) (x : Int) : List UInt8 := if f then 32 :: Lib.itoa x else []
/-- Its text. -/
def txt (i : Ins) : List UInt8 := nm i.op ++ (rw_ (fd i.op) i.d ++ (rw_ (fa i.op) i.a ++ (rw_ (fb i.op) i.b ++ iw (fi i.op) i.imm)))
/-- Its word. -/
def wrd (i : Ins) : Int := (i.op + i.d * 256 + i.a * 65536 + i.b * 16777216 + i.imm * 4294967296) % 18446744073709551616

/-! Cuts at a byte. -/
def ct1 (c : UInt8) : List UInt8 → List UInt8
  | [] => []
  | x :: l => if x == c then [] else x :: ct1 c l
def ct2 (c : UInt8) : List UInt8 → List UInt8
  | [] => []
  | x :: l => if x == c then l else ct2 c l
theorem cut_one (s : List UInt8) (c : UInt8) : (Lib.cut s [c]).1 = ct1 c s ∧ (Lib.cut s [c]).2.1 = ct2 c s := by
  unfold Lib.cut
  rw [Lib.index_one]
  induction s with
  | nil => simp [Lib.indexByte, ct1, ct2]
  | cons x l ih =>
    unfold Lib.indexByte ct1 ct2
    by_cases hx : (x == c) = true
    · simp [hx]
    · have hge := Lib.indexByte_ge l c
      rw [if_neg hx, if_neg hx, if_neg hx]
      by_cases h1 : (Lib.indexByte l c == -1) = true
      · have e1 : Lib.indexByte l c = -1 := by simpa using h1
        rw [e1] at ih
        simp at ih
        rw [if_pos h1]
        simp [← ih.1, ← ih.2]
      · have e1 : Lib.indexByte l c ≠ -1 := by simpa using h1
        rw [if_neg h1]
        have h0 : 0 ≤ Lib.indexByte l c := by omega
        obtain ⟨n, hn⟩ : ∃ n : Nat, Lib.indexByte l c = n := ⟨(Lib.indexByte l c).toNat, by omega⟩
        rw [hn] at ih ⊢
        simp at ih
        have e2 : ((n : Int) + 1).toNat = n + 1 := by omega
        have e3 : (0 : Int) ≤ (n : Int) + 1 := by omega
        rw [if_pos e3, e2, ← ih.1, ← ih.2]
        simp
theorem ct_no {c : UInt8} : ∀ {l : List UInt8}, c ∉ l → ct1 c l = l ∧ ct2 c l = []
  | [], _ => ⟨rfl, rfl⟩
  | x :: l, h => by
    have hx : ¬ (x == c) = true := fun e => h (by rw [show x = c by simpa using e]; exact List.mem_cons_self ..)
    obtain ⟨h1, h2⟩ := ct_no (l := l) (fun e => h (List.mem_cons_of_mem _ e))
    unfold ct1 ct2
    rw [if_neg hx, if_neg hx, h1, h2]
    exact ⟨rfl, rfl⟩
theorem ct_at {c : UInt8} (r : List UInt8) : ∀ {l : List UInt8}, c ∉ l → ct1 c (l ++ c :: r) = l ∧ ct2 c (l ++ c :: r) = r
  | [], _ => by simp [ct1, ct2]
  | x :: l, h => by
    have hx : ¬ (x == c) = true := fun e => h (by rw [show x = c by simpa using e]; exact List.mem_cons_self ..)
    obtain ⟨h1, h2⟩ := ct_at r (l := l) (fun e => h (List.mem_cons_of_mem _ e))
    rw [List.cons_append]
    unfold ct1 ct2
    rw [if_neg hx, if_neg hx, h1, h2]
    exact ⟨rfl, rfl⟩
theorem ct1_len (c : UInt8) : ∀ l : List UInt8, (ct1 c l).length ≤ l.length
  | [] => Nat.le_refl _
  | x :: l => by unfold ct1; split; simp; simp; exact ct1_len c l
theorem ct2_len (c : UInt8) : ∀ l : List UInt8, (ct2 c l).length ≤ l.length
  | [] => Nat.le_refl _
  | x :: l => by unfold ct2; split; simp; simp; exact Nat.le_succ_of_le (ct2_len c l)
theorem ct2_lt (c : UInt8) : ∀ l : List UInt8, l ≠ [] → (ct2 c l).length < l.length
  | [], h => absurd rfl h
  | x :: l, _ => by unfold ct2; split; simp; simp; exact Nat.lt_succ_of_le (ct2_len c l)

/-! Digits. -/
def dg (c : UInt8) : Prop := 48 ≤ c.toNat ∧ c.toNat ≤ 57
theorem dec_dg : ∀ (u : Nat), ∀ c ∈ Lib.decDigits u, dg c := by
  intro u
  induction u using Nat.strongRecOn with
  | ind u ih =>
    intro c hc
    rw [Lib.decDigits] at hc
    split at hc
    · next h =>
      obtain rfl : c = UInt8.ofNat (48 + u) := by simpa using hc
      unfold dg
      have : (UInt8.ofNat (48 + u)).toNat = 48 + u := by simp [UInt8.toNat_ofNat]; omega
      omega
    · next h =>
      rcases List.mem_append.1 hc with hc | hc
      · exact ih (u / 10) (by omega) c hc
      · obtain rfl : c = UInt8.ofNat (48 + u % 10) := by simpa using hc
        unfold dg
        have : (UInt8.ofNat (48 + u % 10)).toNat = 48 + u % 10 := by simp [UInt8.toNat_ofNat]; omega
        omega
theorem dec_ne (u : Nat) : Lib.decDigits u ≠ [] := by
  rw [Lib.decDigits]; split <;> simp
theorem itoa_chars (n : Int) : ∀ c ∈ Lib.itoa n, c = 45 ∨ dg c := by
  intro c hc
  unfold Lib.itoa at hc
  split at hc
  · rcases List.mem_cons.1 hc with rfl | hc
    · exact .inl rfl
    · exact .inr (dec_dg _ _ hc)
  · exact .inr (dec_dg _ _ hc)
theorem itoa_no (n : Int) {c : UInt8} (h1 : c ≠ 45) (h2 : ¬ dg c) : c ∉ Lib.itoa n := fun h => by
  rcases itoa_chars n c h with h | h
  · exact h1 h
  · exact h2 h
theorem no32 (n : Int) : (32 : UInt8) ∉ Lib.itoa n := itoa_no n (by decide) (by unfold dg; decide)
theorem no10 (n : Int) : (10 : UInt8) ∉ Lib.itoa n := itoa_no n (by decide) (by unfold dg; decide)
theorem no114 (n : Int) : (114 : UInt8) ∉ Lib.itoa n := itoa_no n (by decide) (by unfold dg; decide)
theorem pm_app (M : Nat) (c : UInt8) : ∀ (l : List UInt8) (acc : Nat), Lib.parseUintM M acc (l ++ [c]) = match Lib.parseUintM M acc l with | .ok v => Lib.parseUintM M v [c] | e => e
  | [], acc => rfl
  | x :: l, acc => by
    rw [List.cons_append]
    unfold Lib.parseUintM
    split
    · split
      · rfl
      · split
        · rfl
        · exact pm_app M c l _
    · rfl
theorem pm_dec (M : Nat) (hM : M < 18446744073709551616) : ∀ u : Nat, u ≤ M → Lib.parseUintM M 0 (Lib.decDigits u) = .ok u := by
  intro u
  induction u using Nat.strongRecOn with
  | ind u ih =>
    intro hu
    rw [Lib.decDigits]
    split
    · next h =>
      have e : (UInt8.ofNat (48 + u)).toNat = 48 + u := by simp [UInt8.toNat_ofNat]; omega
      unfold Lib.parseUintM
      rw [e, if_pos (by omega), if_neg (by omega), if_neg (by omega)]
      unfold Lib.parseUintM
      congr 1; omega
    · next h =>
      rw [pm_app, ih (u / 10) (by omega) (by omega)]
      have e : (UInt8.ofNat (48 + u % 10)).toNat = 48 + u % 10 := by simp [UInt8.toNat_ofNat]; omega
      show Lib.parseUintM M (u / 10) [UInt8.ofNat (48 + u % 10)] = _
      unfold Lib.parseUintM
      rw [e, if_pos (by omega), if_neg (by omega), if_neg (by omega)]
      unfold Lib.parseUintM
      congr 1; omega
theorem parse_itoa (n : Int) (h0 : -2147483648 ≤ n) (h1 : n ≤ 2147483647) : Lib.parseIntB 32 (Lib.itoa n) = .ok n := by
  by_cases hn : n < 0
  · obtain ⟨u, hu, rfl⟩ : ∃ u : Nat, 1 ≤ u ∧ n = -(u : Int) := ⟨n.natAbs, by omega, by omega⟩
    rw [Lib.itoa_neg u hu]
    unfold Lib.parseIntB Lib.parseUintB
    have e1 : ((45 : UInt8).toNat = 43 ∨ (45 : UInt8).toNat = 45) := by decide
    have e2 : (45 : UInt8).toNat = 45 := by decide
    simp only [if_pos e1, dec_ne, if_false]
    rw [pm_dec _ (by decide) u (by have : (2 ^ 32 - 1 : Nat) = 4294967295 := by decide
                                   omega)]
    simp only [e2]
    rw [if_neg (by simp), if_neg (by simp; omega)]
    simp
  · obtain ⟨u, rfl⟩ : ∃ u : Nat, n = (u : Int) := ⟨n.toNat, by omega⟩
    rw [Lib.itoa_nonneg u]
    cases hd : Lib.decDigits u with
    | nil => exact absurd hd (dec_ne u)
    | cons c r =>
      have hc : dg c := dec_dg u c (by rw [hd]; exact List.mem_cons_self ..)
      unfold dg at hc
      unfold Lib.parseIntB Lib.parseUintB
      have e1 : ¬ (c.toNat = 43 ∨ c.toNat = 45) := by omega
      have e2 : ¬ (c.toNat = 45) := by omega
      simp only [if_neg e1]
      rw [if_neg (by simp), ← hd, pm_dec _ (by decide) u (by have : (2 ^ 32 - 1 : Nat) = 4294967295 := by decide
                                                             omega)]
      simp only [e2]
      rw [if_neg (by simp; omega), if_neg (by simp)]
      simp

/-! What the program reads of a text. -/
def pI (l : List UInt8) : Int := match Lib.parseIntB 32 l with | .ok v => v | .range => Lib.intSat 32 l | _ => 0
def pW (w : List UInt8) : Int := pI (Lib.trimPrefix w [114])
theorem pW_r (x : Int) (h0 : -2147483648 ≤ x) (h1 : x ≤ 2147483647) : pW (114 :: Lib.itoa x) = x := by
  have : Lib.trimPrefix (114 :: Lib.itoa x) [114] = Lib.itoa x := by unfold Lib.trimPrefix Lib.hasPrefix; simp [List.isPrefixOf]
  unfold pW pI; rw [this, parse_itoa x h0 h1]
theorem pW_i (x : Int) (h0 : -2147483648 ≤ x) (h1 : x ≤ 2147483647) : pW (Lib.itoa x) = x := by
  have : Lib.trimPrefix (Lib.itoa x) [114] = Lib.itoa x := by
    unfold Lib.trimPrefix Lib.hasPrefix
    rw [if_neg]
    cases hd : Lib.itoa x with
    | nil => simp [List.isPrefixOf]
    | cons c r =>
      have hc : c ≠ 114 := fun e => no114 x (by rw [hd, e]; exact List.mem_cons_self ..)
      simp [List.isPrefixOf]
      exact fun e => hc e.symm
  unfold pW pI; rw [this, parse_itoa x h0 h1]
theorem parseM_le (M : Nat) : ∀ (l : List UInt8) (acc v : Nat), acc ≤ M → Lib.parseUintM M acc l = .ok v → v ≤ M
  | [], acc, v, h, e => by unfold Lib.parseUintM at e; cases e; exact h
  | c :: r, acc, v, h, e => by
    unfold Lib.parseUintM at e
    split at e
    · split at e
      · cases e
      · split at e
        · cases e
        · exact parseM_le M r _ v (by omega) e
    · cases e
theorem pI_bd (l : List UInt8) : -2147483648 ≤ pI l ∧ pI l ≤ 2147483647 := by
  have hp : (2 ^ (32 - 1) : Nat) = 2147483648 := by decide
  unfold pI
  cases h : Lib.parseIntB 32 l with
  | range =>
    unfold Lib.intSat
    rw [hp]
    show -2147483648 ≤ (if _ then _ else _) ∧ (if _ then _ else _) ≤ (2147483647 : Int)
    split <;> constructor <;> decide
  | ok v =>
    unfold Lib.parseIntB at h
    rw [hp] at h
    cases l with
    | nil => simp at h
    | cons c r =>
      simp only at h
      split at h
      · cases h
      · cases h
      · next u hu =>
        split at h
        · cases h
        · next h1 =>
          split at h
          · cases h
          · next h2 =>
            simp only [Lib.NumEnd.ok.injEq] at h
            subst h
            show -2147483648 ≤ (if _ then _ else _) ∧ (if _ then _ else _) ≤ (2147483647 : Int)
            by_cases hn : c.toNat = 45
            · simp only [hn] at h2 ⊢; simp at h2; constructor <;> simp <;> omega
            · simp only [hn] at h1 ⊢; simp at h1; constructor <;> simp <;> omega
  | _ => constructor <;> (simp)
def opOf (l : List UInt8) : Int := match nmL.findIdx? (fun x => decide (x = l)) with | some k => (k : Int) | none => 0
theorem opOf_nm {op : Int} (h : isOp op = true) : opOf (nm op) = op := by
  rcases isOp_cases h with rfl | rfl | rfl | rfl | rfl | rfl | rfl | rfl | rfl | rfl | rfl | rfl | rfl | rfl | rfl | rfl | rfl <;> decide
def nx (f : Bool) (s : List UInt8) : Int := if f then pW (ct1 32 s) else 0
def nr (f : Bool) (s : List UInt8) : List UInt8 := if f then ct2 32 s else s
/-- What read makes of a text. -/
def rd (s : List UInt8) : Ins :=
  let op := opOf (ct1 32 s)
  let r0 := ct2 32 s
  let r1 := nr (fd op) r0
  let r2 := nr (fa op) r1
  let r3 := nr (fb op) r2
  ⟨op, nx (fd op) r0, nx (fa op) r1, nx (fb op) r2, nx (fi op) r3⟩
theorem nm32 {op : Int} (h : isOp op = true) : (32 : UInt8) ∉ nm op := by
  rcases isOp_cases h with rfl | rfl | rfl | rfl | rfl | rfl | rfl | rfl | rfl | rfl | rfl | rfl | rfl | rfl | rfl | rfl | rfl <;> decide
theorem nm10 {op : Int} (h : isOp op = true) : (10 : UInt8) ∉ nm op := by
  rcases isOp_cases h with rfl | rfl | rfl | rfl | rfl | rfl | rfl | rfl | rfl | rfl | rfl | rfl | rfl | rfl | rfl | rfl | rfl <;> decide
/-- What stands behind a part: nothing, or a blank and more. -/
def tl (l : List UInt8) : Prop := l = [] ∨ ∃ r, l = 32 :: r
theorem tl_rw (f : Bool) (x : Int) {l : List UInt8} (h : tl l) : tl (rw_ f x ++ l) := by
  unfold rw_; split
  · exact .inr ⟨_, rfl⟩
  · exact h
theorem tl_iw (f : Bool) (x : Int) : tl (iw f x) := by
  unfold iw; split
  · exact .inr ⟨_, rfl⟩
  · exact .inl rfl
def dp (l : List UInt8) : List UInt8 := l.drop 1
theorem ct_tl {w l : List UInt8} (hw : (32 : UInt8) ∉ w) (h : tl l) : ct1 32 (w ++ l) = w ∧ ct2 32 (w ++ l) = dp l := by
  rcases h with rfl | ⟨r, rfl⟩
  · rw [List.append_nil]; exact ct_no hw
  · exact ct_at r hw
theorem no32r (x : Int) : (32 : UInt8) ∉ 114 :: Lib.itoa x := by
  intro h; rcases List.mem_cons.1 h with h | h
  · exact absurd h (by decide)
  · exact no32 x h
theorem step_rw (f : Bool) (x : Int) (h : rg f x = true) {l : List UInt8} (ht : tl l) : nx f (dp (rw_ f x ++ l)) = x ∧ nr f (dp (rw_ f x ++ l)) = dp (if f then 32 :: dp l else l) ∨ l = [] ∧ nx f (dp (rw_ f x ++ l)) = x ∧ nr f (dp (rw_ f x ++ l)) = [] := by
  unfold rg at h
  unfold nx nr rw_
  cases f with
  | false =>
    simp at h
    left; simp [h, dp]
  | true =>
    simp only [if_true]
    have hb : -2147483648 ≤ x ∧ x ≤ 2147483647 := by simp at h; omega
    have e : dp (32 :: 114 :: Lib.itoa x ++ l) = (114 :: Lib.itoa x) ++ l := rfl
    rw [e]
    obtain ⟨h1, h2⟩ := ct_tl (no32r x) ht
    rw [h1, h2, pW_r x hb.1 hb.2]
    left; exact ⟨rfl, rfl⟩
theorem nx_rw (f : Bool) (x : Int) (h : rg f x = true) {l : List UInt8} (ht : tl l) : nx f (dp (rw_ f x ++ l)) = x := by
  rcases step_rw f x h ht with ⟨h, _⟩ | ⟨_, h, _⟩ <;> exact h
theorem nr_rw (f : Bool) (x : Int) (h : rg f x = true) {l : List UInt8} (ht : tl l) : nr f (dp (rw_ f x ++ l)) = dp l := by
  rcases step_rw f x h ht with ⟨_, h⟩ | ⟨e, _, h⟩
  · rw [h]; cases f <;> simp [dp]
  · rw [h, e]; rfl
theorem nx_iw (op x : Int) (h : im op x = true) : nx (fi op) (dp (iw (fi op) x)) = x := by
  unfold im at h
  unfold nx iw
  cases hf : fi op with
  | false => rw [hf] at h; simp at h; simp [h]
  | true =>
    have hb : -2147483648 ≤ x ∧ x ≤ 2147483647 := by rw [hf] at h; simp at h; omega
    simp only [if_true]
    show pW (ct1 32 (Lib.itoa x)) = x
    rw [(ct_no (no32 x)).1, pW_i x hb.1 hb.2]
theorem may_parts {i : Ins} (h : may i = true) : isOp i.op = true ∧ im i.op i.imm = true ∧ rg (fd i.op) i.d = true ∧ rg (fa i.op) i.a = true ∧ rg (fb i.op) i.b = true := by
  unfold may at h; simp only [Bool.and_eq_true] at h; exact ⟨h.1.1.1.1, h.1.1.1.2, h.1.1.2, h.1.2, h.2⟩
/-- A text is read as its instruction. -/
theorem rd_txt {i : Ins} (h : may i = true) : rd (txt i) = i := by
  obtain ⟨h0, h1, h2, h3, h4⟩ := may_parts h
  have t4 : tl (iw (fi i.op) i.imm) := tl_iw _ _
  have t3 := tl_rw (fb i.op) i.b t4
  have t2 := tl_rw (fa i.op) i.a t3
  have t1 := tl_rw (fd i.op) i.d t2
  obtain ⟨c1, c2⟩ := ct_tl (nm32 h0) t1
  unfold rd
  show (⟨_, _, _, _, _⟩ : Ins) = i
  have e0 : opOf (ct1 32 (txt i)) = i.op := by show opOf (ct1 32 (nm i.op ++ _)) = _; rw [c1, opOf_nm h0]
  have e1 : ct2 32 (txt i) = dp (rw_ (fd i.op) i.d ++ (rw_ (fa i.op) i.a ++ (rw_ (fb i.op) i.b ++ iw (fi i.op) i.imm))) := c2
  rw [e0, e1, nr_rw _ _ h2 t2, nr_rw _ _ h3 t3, nr_rw _ _ h4 t4, nx_rw _ _ h2 t2, nx_rw _ _ h3 t3, nx_rw _ _ h4 t4, nx_iw _ _ h1]
/-- Two that may be, of one text, are one. -/
theorem txt_inj {i j : Ins} (hi : may i = true) (hj : may j = true) (h : txt i = txt j) : i = j := by
  rw [← rd_txt hi, h, rd_txt hj]
/-- What Untext answers. -/
def unt (s : List UInt8) : Option Ins := if may (rd s) = true ∧ txt (rd s) = s then some (rd s) else none
theorem unt_txt {i : Ins} (h : may i = true) : unt (txt i) = some i := by
  unfold unt; rw [rd_txt h, if_pos ⟨h, rfl⟩]
theorem unt_some {s : List UInt8} {i : Ins} (h : unt s = some i) : may i = true ∧ txt i = s := by
  unfold unt at h; split at h
  · next hh => cases h; exact hh
  · cases h
theorem unt_none {s : List UInt8} (h : unt s = none) : ∀ i, may i = true → txt i ≠ s := by
  intro i hi e
  rw [← e, unt_txt hi] at h
  cases h
end Go.Proofs.YtpklboicgjpmeaaDoor.JC
