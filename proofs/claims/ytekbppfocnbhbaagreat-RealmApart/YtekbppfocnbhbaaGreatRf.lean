import Derived.Test.YtekbppfocnbhbaaGreatRd
set_option linter.unusedVariables false
set_option linter.unusedSimpArgs false
set_option maxHeartbeats 16000000
set_option maxRecDepth 100000
namespace Go.Proofs.YtekbppfocnbhbaaGreat.XC
open Go.RowKit
section
variable {c : Cx} {rb tn last last' : Nat} {L R R' L' : Lg} {I J : Nat → Prop} {X Y Z T : World} {rl rl' l l' a b : List En} {av av' : Value} {rd root : Int} {r r' r'' : Rm} {lv : Value}
theorem RE.ahead {X1 : World} (hlt : ∀ k, I k → k < X.heap.size) (hb : Below X.heap.size X X1) (h : RE c rb L R' I X1 Z rl rl' last' av av') : RE c rb L R' I X Z rl rl' last' av av' :=
  ⟨h.ex, fun k hI h1 h2 => (h.fr k hI h1 h2).trans (hb.block k (hlt k hI)), Nat.le_trans hb.size h.sz, fun k e => (h.nw k e).imp id (fun h2 => Nat.le_trans hb.size h2), fun x hx k e => (h.lg x hx k e).imp id (fun h2 => Nat.le_trans hb.size h2)⟩
def recR (c : Cx) (L : Lg) (r : Rm) (rec : Rd) (n : Nat) : Rm := { r with meas := (R5.nx c.D L (qOf r.meas rec)).1, log := r.log ++ [rec], recs := n }
def recL (c : Cx) (L : Lg) (r : Rm) (rec : Rd) : Lg := (R5.nx c.D L (qOf r.meas rec)).2
theorem add_rec (pc : Nat) (rs : List Nat) (run : Bool) : addR c L r pc rs run = recR c L r (rec3 pc rs run) (r.recs + 1) ∧ addL c L r pc rs run = recL c L r (rec3 pc rs run) := by
  unfold addR addL recR recL; rw [qOf3]; exact ⟨rfl, rfl⟩
theorem rdata_no (h : RX c rb I X rl last av) (hs : ∀ k, I k → k < X.heap.size) (hn : rl.length < 1000000) (hno : NoRd rl rd) (pg : Nat) (hp : pg < 128) (g : List UInt8) (hg : g.length = 128) :
    Calls Tryz.prog 34 #[.pointer (some ⟨rb, 0, none⟩), .int .i64 rd, .int .i64 (pg : Int), .agg (g.map B8).toArray] X fun e Y => e = .returned (.int .i64 6) ∧ Below X.heap.size X Y := by
  refine (rdata_go (rd := rd) (Q := fun v Y => v = .int .i64 6 ∧ Below X.heap.size X Y) (.pointer (some ⟨rb, 0, none⟩)) pg hp g hg (fun X1 hX1 => ?_)).mono (fun e Y ⟨v, h1, h2, h3⟩ => ⟨by rw [h1, h2], h3⟩)
  have hb1 : Below X.heap.size X X1 := by rw [hX1]; exact (Below.refl _ _).alloc (Nat.le_refl _) _
  have hs1 := hb1.size
  exact (rgrow_no (h.below hs hb1) (fun k hk => Nat.lt_of_lt_of_le (hs k hk) hs1) hn hno _).mono (fun e Y ⟨h1, _, h3⟩ => ⟨6, h1, rfl, hb1.trans (h3.mono hs1)⟩)
theorem rdata_st (h : RX c rb I X (a ++ (rd, r, lv) :: b) last av) (hs : ∀ k, I k → k < X.heap.size) (hn : (a ++ (rd, r, lv) :: b).length < 1000000) (hno : NoRd a rd) (hst : r.st ≠ 1) (pg : Nat) (hp : pg < 128) (g : List UInt8) (hg : g.length = 128) :
    Calls Tryz.prog 34 #[.pointer (some ⟨rb, 0, none⟩), .int .i64 rd, .int .i64 (pg : Int), .agg (g.map B8).toArray] X fun e Y => e = .returned (.int .i64 7) ∧ Below X.heap.size X Y := by
  refine (rdata_go (rd := rd) (Q := fun v Y => v = .int .i64 7 ∧ Below X.heap.size X Y) (.pointer (some ⟨rb, 0, none⟩)) pg hp g hg (fun X1 hX1 => ?_)).mono (fun e Y ⟨v, h1, h2, h3⟩ => ⟨by rw [h1, h2], h3⟩)
  have hb1 : Below X.heap.size X X1 := by rw [hX1]; exact (Below.refl _ _).alloc (Nat.le_refl _) _
  have hs1 := hb1.size
  exact (rgrow_st (h.below hs hb1) (fun k hk => Nat.lt_of_lt_of_le (hs k hk) hs1) hn hno hst _).mono (fun e Y ⟨h1, _, h3⟩ => ⟨7, h1, rfl, hb1.trans (h3.mono hs1)⟩)
theorem rdata_ok (h : RX c rb I X (a ++ (rd, r, lv) :: b) last av) (hM : R5.MM c.w c.n tn c.og c.mo c.rg c.m c.D L R I X X) (hn : (a ++ (rd, r, lv) :: b).length < 1000000) (hno : NoRd a rd) (hst : r.st = 1) (pg : Nat) (hp : pg < 128) (g : List UInt8) (hg : g.length = 128) (hL : R.length < 1000000) (hlog : r.log.length < 100000) (hlne : r.log ≠ []) (hAl : ∀ q, (R5.nx c.D R q).1.length = 32) :
    Calls Tryz.prog 34 #[.pointer (some ⟨rb, 0, none⟩), .int .i64 rd, .int .i64 (pg : Int), .agg (g.map B8).toArray] X fun e Y => e = .returned (.int .i64 0) ∧ ∃ v, RE c rb L (recL c R r (rec2 pg g)) I X Y (a ++ (rd, r, lv) :: b) (a ++ (rd, recR c R r (rec2 pg g) r.recs, v) :: b) last av av := by
  have hok := h.ok _ (show (rd, r, lv) ∈ a ++ (rd, r, lv) :: b by simp)
  refine (rdata_go (rd := rd) (Q := fun v Y => v = .int .i64 0 ∧ ∃ v, RE c rb L (recL c R r (rec2 pg g)) I X Y (a ++ (rd, r, lv) :: b) (a ++ (rd, recR c R r (rec2 pg g) r.recs, v) :: b) last av av) (.pointer (some ⟨rb, 0, none⟩)) pg hp g hg (fun X1 hX1 => ?_)).mono (fun e Y ⟨v, h1, h2, h3⟩ => ⟨by rw [h1, h2], h3⟩)
  have hb1 : Below X.heap.size X X1 := by rw [hX1]; exact (Below.refl _ _).alloc (Nat.le_refl _) _
  have hs : ∀ k, I k → k < X.heap.size := fun k hk => hM.ilt hk
  have hM1 := (hM.step hb1).fix
  refine (rgrow_ok (h.below hs hb1) hM1 hn hno hst (rec2 pg g) (rec2_ok pg hg) hlog hlne (R5.nx c.D R (qOf r.meas (rec2 pg g))) (hAl _) (fun V J hMV hcV hJ => ?_)).mono (fun e Y ⟨h1, h2⟩ => ⟨0, h1, rfl, ?_⟩)
  · have := rms2 hMV hcV hJ hL r.meas hok.m (rec2 pg g) (rec2_ok pg hg) rfl pg rfl hp (hAl _)
    rw [qOf2, ← List.append_assoc]
    exact this
  · obtain ⟨v, hv⟩ := RE.of_ge (lv := lv) (r := r) hM1 h2
    exact ⟨v, hv.ahead hs hb1⟩
end
structure Am where
  l : List (Int × Rm)
  last : Nat
  L : Lg
def RecOk (rec : Rd) : Prop := rec.ok ∧ ((∃ pg g, pg < 128 ∧ rec = rec2 pg g) ∨ ∃ pc rs run, pc < 18446744073709551616 ∧ (∀ x ∈ rs, x < 18446744073709551616) ∧ rec = rec3 pc rs run)
def UP (c : Cx) (k : Int) (r r' : Rm) (L L' : Lg) : Prop :=
  (∃ s : Int, ((s = 2 ∧ r.st = 1) ∨ s = 3) ∧ r' = { r with st := s } ∧ L' = L) ∨ (∃ n : Nat, n ≤ r.recs ∧ r' = { r with recs := n } ∧ L' = L) ∨ (k = 7 ∧ r' = { r with ctr := r.ctr + 1 } ∧ L' = L) ∨ (∃ t : List UInt8, r' = { r with tree := t } ∧ L' = L) ∨
    ∃ (rec : Rd) (n : Nat), r.st = 1 ∧ RecOk rec ∧ n ≤ r.recs + 1 ∧ r' = recR c L r rec n ∧ L' = recL c L r rec
theorem UP.st {c : Cx} {k : Int} (r : Rm) (s : Int) (L : Lg) (h : (s = 2 ∧ r.st = 1) ∨ s = 3) : UP c k r { r with st := s } L L := .inl ⟨s, h, rfl, rfl⟩
theorem UP.recs {c : Cx} {k : Int} (r : Rm) (n : Nat) (L : Lg) (h : n ≤ r.recs) : UP c k r { r with recs := n } L L := .inr (.inl ⟨n, h, rfl, rfl⟩)
theorem UP.ctr {c : Cx} {k : Int} (r : Rm) (L : Lg) (h : k = 7) : UP c k r { r with ctr := r.ctr + 1 } L L := .inr (.inr (.inl ⟨h, rfl, rfl⟩))
theorem UP.tree {c : Cx} {k : Int} (r : Rm) (t : List UInt8) (L : Lg) : UP c k r { r with tree := t } L L := .inr (.inr (.inr (.inl ⟨t, rfl, rfl⟩)))
theorem UP.grow {c : Cx} {k : Int} (r : Rm) (rec : Rd) (n : Nat) (L : Lg) (h1 : r.st = 1) (h2 : RecOk rec) (h3 : n ≤ r.recs + 1) : UP c k r (recR c L r rec n) L (recL c L r rec) := .inr (.inr (.inr (.inr ⟨rec, n, h1, h2, h3, rfl, rfl⟩)))
theorem UP.elim {c : Cx} {k : Int} {motive : (r r' : Rm) → (L L' : Lg) → UP c k r r' L L' → Prop} (st : ∀ r s L h, motive r { r with st := s } L L (UP.st r s L h)) (recs : ∀ r n L h, motive r { r with recs := n } L L (UP.recs r n L h)) (ctr : ∀ r L h, motive r { r with ctr := r.ctr + 1 } L L (UP.ctr r L h)) (tree : ∀ r t L, motive r { r with tree := t } L L (UP.tree r t L))
    (grow : ∀ r rec n L h1 h2 h3, motive r (recR c L r rec n) L (recL c L r rec) (UP.grow r rec n L h1 h2 h3)) {r r' : Rm} {L L' : Lg} (h : UP c k r r' L L') : motive r r' L L' h := by
  rcases h with ⟨s, h, rfl, rfl⟩ | ⟨n, h, rfl, rfl⟩ | ⟨h, rfl, rfl⟩ | ⟨t, rfl, rfl⟩ | ⟨rec, n, h1, h2, h3, rfl, rfl⟩
  · exact st _ _ _ h
  · exact recs _ _ _ h
  · exact ctr _ _ h
  · exact tree _ _ _
  · exact grow _ _ _ _ h1 h2 h3
def AT (c : Cx) (k : Int) (s s' : Am) : Prop :=
  s' = s ∨ (∃ (a b : List (Int × Rm)) (rd : Int) (r r' : Rm) (L L' : Lg) (last : Nat), UP c k r r' L L' ∧ s = ⟨a ++ (rd, r) :: b, last, L⟩ ∧ s' = ⟨a ++ (rd, r') :: b, last, L'⟩) ∨
    (∃ (a b : List (Int × Rm)) (rd : Int) (r : Rm) (L : Lg) (last : Nat), s = ⟨a ++ (rd, r) :: b, last, L⟩ ∧ s' = ⟨a ++ b, last, L⟩) ∨
    ∃ (l : List (Int × Rm)) (last : Nat) (L : Lg) (rd root : Int) (V : List UInt8) (nodes : Nat) (tree : List UInt8), V.length = 32 ∧ 0 ≤ rd ∧ s = ⟨l, last, L⟩ ∧ s' = ⟨l ++ [(rd, newR c L (last + 1) root V nodes tree)], last + 1, newL c L (last + 1) V⟩
theorem AT.same {c : Cx} {k : Int} (s : Am) : AT c k s s := .inl rfl
theorem AT.upd {c : Cx} {k : Int} (a b : List (Int × Rm)) (rd : Int) (r r' : Rm) (L L' : Lg) (last : Nat) (h : UP c k r r' L L') : AT c k ⟨a ++ (rd, r) :: b, last, L⟩ ⟨a ++ (rd, r') :: b, last, L'⟩ := .inr (.inl ⟨a, b, rd, r, r', L, L', last, h, rfl, rfl⟩)
theorem AT.del {c : Cx} {k : Int} (a b : List (Int × Rm)) (rd : Int) (r : Rm) (L : Lg) (last : Nat) : AT c k ⟨a ++ (rd, r) :: b, last, L⟩ ⟨a ++ b, last, L⟩ := .inr (.inr (.inl ⟨a, b, rd, r, L, last, rfl, rfl⟩))
theorem AT.new {c : Cx} {k : Int} (l : List (Int × Rm)) (last : Nat) (L : Lg) (rd root : Int) (V : List UInt8) (nodes : Nat) (tree : List UInt8) (hV : V.length = 32) (h0 : 0 ≤ rd) : AT c k ⟨l, last, L⟩ ⟨l ++ [(rd, newR c L (last + 1) root V nodes tree)], last + 1, newL c L (last + 1) V⟩ := .inr (.inr (.inr ⟨l, last, L, rd, root, V, nodes, tree, hV, h0, rfl, rfl⟩))
theorem AT.elim {c : Cx} {k : Int} {motive : (s s' : Am) → AT c k s s' → Prop} (same : ∀ s, motive s s (AT.same s)) (upd : ∀ a b rd r r' L L' last h, motive ⟨a ++ (rd, r) :: b, last, L⟩ ⟨a ++ (rd, r') :: b, last, L'⟩ (AT.upd a b rd r r' L L' last h)) (del : ∀ a b rd r L last, motive ⟨a ++ (rd, r) :: b, last, L⟩ ⟨a ++ b, last, L⟩ (AT.del a b rd r L last))
    (new : ∀ l last L rd root V nodes tree hV h0, motive ⟨l, last, L⟩ ⟨l ++ [(rd, newR c L (last + 1) root V nodes tree)], last + 1, newL c L (last + 1) V⟩ (AT.new l last L rd root V nodes tree hV h0)) {s s' : Am} (h : AT c k s s') : motive s s' h := by
  rcases h with rfl | ⟨a, b, rd, r, r', L, L', last, h, rfl, rfl⟩ | ⟨a, b, rd, r, L, last, rfl, rfl⟩ | ⟨l, last, L, rd, root, V, nodes, tree, hV, h0, rfl, rfl⟩
  · exact same _
  · exact upd _ _ _ _ _ _ _ _ h
  · exact del _ _ _ _ _ _
  · exact new _ _ _ _ _ _ _ _ hV h0
structure Bd (N : Nat) (s : Am) : Prop where
  last : s.last ≤ N
  L : s.L.length ≤ 2 * N
  n : s.l.length ≤ N
  r : ∀ x ∈ s.l, x.2.log.length ≤ N + 1 ∧ x.2.log ≠ [] ∧ x.2.recs ≤ N ∧ x.2.ctr ≤ N
theorem Bd.step {c : Cx} {k : Int} {N : Nat} {s s' : Am} (h : Bd N s) (ht : AT c k s s') : Bd (N + 1) s' := by
  have h1 := h.last
  have h2 := h.L
  have h3 := h.n
  have h4 := h.r
  cases ht using AT.elim with
  | same => exact ⟨by omega, by omega, by omega, fun x hx => by obtain ⟨q1, q2, q3, q4⟩ := h4 x hx; exact ⟨by omega, q2, by omega, by omega⟩⟩
  | upd a b rd r r' L L' last hu =>
    have hr := h4 (rd, r) (by simp)
    have hlen : (a ++ (rd, r') :: b).length = (a ++ (rd, r) :: b).length := by simp
    have key : L'.length ≤ L.length + 1 ∧ r'.log.length ≤ r.log.length + 1 ∧ r'.log ≠ [] ∧ r'.recs ≤ r.recs + 1 ∧ r'.ctr ≤ r.ctr + 1 := by
      have hne : r.log ≠ [] := hr.2.1
      cases hu using UP.elim with
      | st => exact ⟨by omega, by show r.log.length ≤ _; omega, hne, by show r.recs ≤ _; omega, by show r.ctr ≤ _; omega⟩
      | recs r n L hn => exact ⟨by omega, by show r.log.length ≤ _; omega, hne, by show n ≤ _; omega, by show r.ctr ≤ _; omega⟩
      | ctr => exact ⟨by omega, by show r.log.length ≤ _; omega, hne, by show r.recs ≤ _; omega, Nat.le_refl _⟩
      | tree => exact ⟨by omega, by show r.log.length ≤ _; omega, hne, by show r.recs ≤ _; omega, by show r.ctr ≤ _; omega⟩
      | grow r rec n L hg1 hg2 hg3 => exact ⟨R5.nx_len _ _ _, by show (r.log ++ [rec]).length ≤ _; simp, by show r.log ++ [rec] ≠ []; simp, hg3, by show r.ctr ≤ _; omega⟩
    obtain ⟨k1, k2, k3, k4, k5⟩ := key
    have h2' : L.length ≤ 2 * N := h2
    have h3' : (a ++ (rd, r) :: b).length ≤ N := h3
    refine ⟨by show last ≤ _; have : last ≤ N := h1; omega, by show L'.length ≤ _; omega, by show (a ++ (rd, r') :: b).length ≤ _; omega, fun x hx => ?_⟩
    rcases List.mem_append.1 hx with hx | hx
    · obtain ⟨q1, q2, q3, q4⟩ := h4 x (by simp [hx]); exact ⟨by omega, q2, by omega, by omega⟩
    · rcases List.mem_cons.1 hx with rfl | hx
      · have q1 : r.log.length ≤ N + 1 := hr.1
        have q3 : r.recs ≤ N := hr.2.2.1
        have q4 : r.ctr ≤ N := hr.2.2.2
        exact ⟨by show r'.log.length ≤ _; omega, k3, by show r'.recs ≤ _; omega, by show r'.ctr ≤ _; omega⟩
      · obtain ⟨q1, q2, q3, q4⟩ := h4 x (by simp [hx]); exact ⟨by omega, q2, by omega, by omega⟩
  | del a b rd r L last =>
    have h3' : (a ++ (rd, r) :: b).length ≤ N := h3
    have h2' : L.length ≤ 2 * N := h2
    have h1' : last ≤ N := h1
    refine ⟨by show last ≤ _; omega, by show L.length ≤ _; omega, by show (a ++ b).length ≤ _; simp at h3' ⊢; omega, fun x hx => ?_⟩
    have hx2 : x ∈ a ++ (rd, r) :: b := by rcases List.mem_append.1 hx with hx | hx <;> simp [hx]
    obtain ⟨q1, q2, q3, q4⟩ := h4 x hx2; exact ⟨by omega, q2, by omega, by omega⟩
  | new l last L rd root V nodes tree hV =>
    have h2' : L.length ≤ 2 * N := h2
    have h3' : l.length ≤ N := h3
    have h1' : last ≤ N := h1
    have e1 := R5.nx_len c.D L (cq1 V)
    have e2 := R5.nx_len c.D (R5.nx c.D L (cq1 V)).2 (cq2 c.m (last + 1))
    refine ⟨by show last + 1 ≤ _; omega, by show (newL c L (last + 1) V).length ≤ _; unfold newL; omega, by show (l ++ [_]).length ≤ _; simp; omega, fun x hx => ?_⟩
    rcases List.mem_append.1 hx with hx | hx
    · obtain ⟨q1, q2, q3, q4⟩ := h4 x hx; exact ⟨by omega, q2, by omega, by omega⟩
    · rw [List.mem_singleton.1 hx]
      exact ⟨by show 1 ≤ _; omega, by show [rec1 V] ≠ []; simp, Nat.zero_le _, Nat.zero_le _⟩
theorem ab_app (a b : List En) : ab (a ++ b) = ab a ++ ab b := by unfold ab; rw [List.map_append]
theorem ab_mid (a b : List En) (rd : Int) (r : Rm) (lv : Value) : ab (a ++ (rd, r, lv) :: b) = ab a ++ (rd, r) :: ab b := by rw [ab_app]; rfl
theorem ab_len (a : List En) : (ab a).length = a.length := by unfold ab; simp
theorem ab_split : ∀ {rl a b : List En} {rd : Int} {r : Rm} {lv : Value}, ab rl = ab (a ++ (rd, r, lv) :: b) → ∃ a' lv' b', rl = a' ++ (rd, r, lv') :: b' ∧ ab a' = ab a ∧ ab b' = ab b
  | [], a, b, rd, r, lv, h => by rw [ab_mid] at h; exact absurd h.symm (by simp [ab])
  | x :: rl, [], b, rd, r, lv, h => by
    rw [ab_mid] at h
    have h' : (x.1, x.2.1) :: ab rl = (rd, r) :: ab b := h
    injection h' with h1 h2
    obtain ⟨x1, x2, x3⟩ := x
    simp only [Prod.mk.injEq] at h1
    obtain ⟨rfl, rfl⟩ := h1
    exact ⟨[], x3, rl, rfl, rfl, h2⟩
  | x :: rl, y :: a, b, rd, r, lv, h => by
    have h' : (x.1, x.2.1) :: ab rl = (y.1, y.2.1) :: ab (a ++ (rd, r, lv) :: b) := h
    injection h' with h1 h2
    obtain ⟨a', lv', b', e1, e2, e3⟩ := ab_split h2
    refine ⟨x :: a', lv', b', by rw [e1]; rfl, ?_, e3⟩
    show (x.1, x.2.1) :: ab a' = (y.1, y.2.1) :: ab a
    rw [h1, e2]
theorem ab_no {l rl : List En} {rd : Int} (h : ab rl = ab l) (hn : NoRd l rd) : NoRd rl rd := fun x hx e => by
  have h1 : (x.1, x.2.1) ∈ ab rl := List.mem_map.2 ⟨x, hx, rfl⟩
  rw [h] at h1
  obtain ⟨y, hy, e2⟩ := List.mem_map.1 h1
  exact hn y hy ((congrArg Prod.fst e2).trans e)
theorem first_split (l : List En) (rd : Int) : NoRd l rd ∨ ∃ a r lv b, l = a ++ (rd, r, lv) :: b ∧ NoRd a rd := by
  induction l with
  | nil => exact .inl (fun x hx => by cases hx)
  | cons x l ih =>
    by_cases hx : x.1 = rd
    · obtain ⟨x1, x2, x3⟩ := x
      have hx' : x1 = rd := hx
      subst hx'
      exact .inr ⟨[], x2, x3, l, rfl, fun x hx => by cases hx⟩
    · rcases ih with h | ⟨a, r, lv, b, rfl, hn⟩
      · exact .inl (fun y hy => by
          rcases List.mem_cons.1 hy with rfl | hy
          · exact hx
          · exact h y hy)
      · exact .inr ⟨x :: a, r, lv, b, rfl, fun y hy => by
          rcases List.mem_cons.1 hy with rfl | hy
          · exact hx
          · exact hn y hy⟩
def Dead (c : Cx) (rb : Nat) (C I : Nat → Prop) (l rl : List En) (av : Value) (g : Nat) : Prop := I g ∧ ¬ C g ∧ ¬ FP c.xb c.mb l g ∧ g ≠ rb ∧ av.ownBlock ≠ some g ∧ ∀ y ∈ rl, y.2.2.ownBlock ≠ some g
def SnOk (c : Cx) (rb : Nat) (C I : Nat → Prop) (X : World) (l rl : List En) (av : Value) : Prop :=
  ∀ x ∈ c.Sn, HR X x.1 x.2 ∧ (∀ y ∈ x.2, y.ok) ∧ ∀ g, x.1.ownBlock = some g → (∃ y ∈ l, y.2.2.ownBlock = some g ∧ x.2.length ≤ y.2.1.log.length) ∨ Dead c rb C I l rl av g
theorem sn_go {c : Cx} {rb : Nat} {C C' I I' : Nat → Prop} {X X' : World} {l l' rl rl' : List En} {av av' : Value} (h : SnOk c rb C I X l rl av)
    (hown : ∀ y ∈ l, ∀ g, y.2.2.ownBlock = some g → (∀ j, j < y.2.1.log.length * 172 → X'.cell? ⟨g, j, none⟩ = X.cell? ⟨g, j, none⟩) ∧ ((∃ y' ∈ l', y'.2.2.ownBlock = some g ∧ y.2.1.log.length ≤ y'.2.1.log.length) ∨ Dead c rb C' I' l' rl' av' g))
    (hdead : ∀ g, Dead c rb C I l rl av g → X'.heap[g]? = X.heap[g]? ∧ Dead c rb C' I' l' rl' av' g) : SnOk c rb C' I' X' l' rl' av' := fun x hx => by
  obtain ⟨h1, h2, h3⟩ := h x hx
  refine ⟨?_, h2, fun g hg => ?_⟩
  · rcases h1 with h1 | ⟨g, cap, hv, hc⟩
    · exact .inl h1
    · have hob : x.1.ownBlock = some g := by rw [hv]; rfl
      refine .inr ⟨g, cap, hv, fun j u hu => ?_⟩
      have hj : j < x.2.length * 172 := by have := (List.getElem?_eq_some_iff.1 hu).1; rwa [lgC_len h2] at this
      rcases h3 g hob with ⟨y, hy, hyg, hle⟩ | hd
      · rw [(hown y hy g hyg).1 j (by omega)]; exact hc j u hu
      · exact (World.cell?_of_block (a := ⟨g, j, none⟩) (hdead g hd).1).trans (hc j u hu)
  · rcases h3 g hg with ⟨y, hy, hyg, hle⟩ | hd
    · rcases (hown y hy g hyg).2 with ⟨y', hy', h4, h5⟩ | h4
      · exact .inl ⟨y', hy', h4, by omega⟩
      · exact .inr h4
    · exact .inr (hdead g hd).2
structure JB (c : Cx) (rb : Nat) (s : Am) (C I : Nat → Prop) (X : World) (l rl : List En) (av : Value) (tn : Nat) : Prop where
  jr : JR c rb tn s.L I X l rl s.last av
  ab : ab l = s.l
  cc : ∀ k, C k → I k ∧ ¬ FP c.xb c.mb l k ∧ k ≠ rb ∧ av.ownBlock ≠ some k ∧ ∀ x ∈ rl, x.2.2.ownBlock ≠ some k
  sn : SnOk c rb C I X l rl av
def JA (c : Cx) (rb : Nat) (s : Am) (C : Nat → Prop) (X : World) : Prop := ∃ I l rl av tn, JB c rb s C I X l rl av tn
structure JH (c : Cx) (rb : Nat) (s : Am) (C J : Nat → Prop) (Y : World) (l rl : List En) (last : Nat) (R : Lg) (av : Value) (tn : Nat) : Prop where
  jp : JP c tn s.L R J Y l s.last
  rx : RX c rb J Y rl last av
  d1 : ¬ FP c.xb c.mb l rb
  d2 : ∀ k, av.ownBlock = some k → ¬ FP c.xb c.mb l k
  d3 : ∀ x ∈ rl, ∀ k, x.2.2.ownBlock = some k → ¬ FP c.xb c.mb l k
  ab : ab l = s.l
  cc : ∀ k, C k → J k ∧ ¬ FP c.xb c.mb l k ∧ k ≠ rb ∧ av.ownBlock ≠ some k ∧ ∀ x ∈ rl, x.2.2.ownBlock ≠ some k
  sn : SnOk c rb C J Y l rl av
section
variable {c : Cx} {rb tn last last' : Nat} {L R R' L' : Lg} {C I J : Nat → Prop} {X Y Y' Z : World} {rl rl' l l' a b : List En} {av av' : Value} {rd root : Int} {r r' : Rm} {lv : Value} {s s' : Am} {k : Int} {N : Nat}
theorem JB.half (h : JB c rb s C I X l rl av tn) (pd : PD c tn L' s.L I X Y l l' last' (fun _ => False)) (hb : Below Y.heap.size Y Y') (e1 : XC.ab l' = s'.l) (e2 : L' = s'.L) (e3 : last' = s'.last) :
    (∃ J, JH c rb s' (fun k => C k ∨ (Y.heap.size ≤ k ∧ k < Y'.heap.size)) J Y' l' rl s.last s.L av tn) ∧ ∀ k, C k → Y.heap[k]? = X.heap[k]? := by
  subst e2 e3
  obtain ⟨J, hJ, hIJ⟩ := pd.jp
  have hlt : ∀ k, I k → k < X.heap.size := fun k hk => h.jr.jp.mm.ilt hk
  have hnf : ∀ k, I k → ¬ FP c.xb c.mb l k → ¬ FP c.xb c.mb l' k := fun k hk hn hf => by
    rcases pd.sub k hf with hf | hf
    · exact hn hf
    · have := hlt k hk; omega
  have hst : ∀ k, I k → ¬ FP c.xb c.mb l k → Y.heap[k]? = X.heap[k]? := fun k hk hn => pd.fr k (hlt k hk) hk hn (fun h => h)
  have hrx : RX c rb J Y rl s.last av := h.jr.rx.keep (fun k hk => by
    rcases hk with rfl | hk | ⟨x, hx, hk⟩
    · exact hst _ h.jr.rx.fI.1 h.jr.d1
    · exact hst k (h.jr.rx.aI k hk).1 (h.jr.d2 k hk)
    · exact hst k (h.jr.rx.lI x hx k hk).1 (h.jr.d3 x hx k hk)) hIJ
  have hsz := pd.size
  refine ⟨⟨_, hJ.grow hb, hrx.keep (fun k hk => hb.block k (hrx.lt k hk (fun k hk => hJ.mm.ilt hk))) (fun k hk => .inl hk), hnf _ h.jr.rx.fI.1 h.jr.d1, fun k hk => hnf k (h.jr.rx.aI k hk).1 (h.jr.d2 k hk), fun x hx k hk => hnf k (h.jr.rx.lI x hx k hk).1 (h.jr.d3 x hx k hk), e1, fun k hk => ?_, sn_go h.sn (fun y hy g hg => ?_) (fun g hd => ?_)⟩, fun k hk => hst k (h.cc k hk).1 (h.cc k hk).2.1⟩
  rcases hk with hk | hk
  · obtain ⟨c1, c2, c3, c4, c5⟩ := h.cc k hk
    exact ⟨.inl (hIJ k c1), hnf k c1 c2, c3, c4, c5⟩
  · refine ⟨.inr hk, fun hf => ?_, fun e => ?_, fun e => ?_, fun x hx e => ?_⟩
    · have := hJ.px.top k hf; omega
    · have := hlt _ h.jr.rx.fI.1; omega
    · have := hlt _ (h.jr.rx.aI k e).1; omega
    · have := hlt _ (h.jr.rx.lI x hx k e).1; omega
  · have hgX : g < X.heap.size := HO.lt (h.jr.jp.px.own y hy) g hg
    have hfg : FP c.xb c.mb l g := .inr (.inr ⟨y, hy, hg⟩)
    refine ⟨fun j hj => (World.cell?_of_block (a := ⟨g, j, none⟩) (hb.block g (by omega))).trans ((pd.pre y hy g hg).1 j hj), ?_⟩
    by_cases hf : FP c.xb c.mb l' g
    · rcases hf with e | e | ⟨y', hy', e⟩
      · exact absurd e (h.jr.jp.px.far y hy g hg).1
      · exact absurd e (h.jr.jp.px.far y hy g hg).2
      · exact .inl ⟨y', hy', e, (pd.pre y hy g hg).2 y' hy' e⟩
    · exact .inr ⟨.inl (hIJ g (h.jr.jp.px.fI g hfg).1), fun hc => hc.elim (fun hc => (h.cc g hc).2.1 hfg) (fun hc => by omega), hf, fun e => h.jr.d1 (e ▸ hfg), fun e => h.jr.d2 g e hfg, fun z hz e => h.jr.d3 z hz g e hfg⟩
  · obtain ⟨q1, q2, q3, q4, q5, q6⟩ := hd
    have hgX := hlt g q1
    exact ⟨(hb.block g (by omega)).trans (hst g q1 q3), ⟨.inl (hIJ g q1), fun hc => hc.elim q2 (fun hc => by omega), hnf g q1 q3, q4, q5, q6⟩⟩
theorem JH.fin (h : JH c rb s C J Y l rl last R av tn) (re : RE c rb s.L s.L J Y Z rl rl' s.last av av') (hab : XC.ab rl' = s.l) : JA c rb s C Z ∧ ∀ k, C k → Z.heap[k]? = Y.heap[k]? := by
  obtain ⟨J', hrx, hmm, hJJ⟩ := re.ex
  have hfp : ∀ k, FP c.xb c.mb l k → Z.heap[k]? = Y.heap[k]? := fun k hk => re.fr k (h.jp.px.fI k hk).1 (fun e => h.d1 (e ▸ hk)) (fun e => h.d2 k e hk)
  have hpx : PX c.n c.og c.xb c.mb J' Z l s.last := h.jp.px.keep hJJ (fun k hk _ => hfp k hk)
  have htop := h.jp.px.top
  refine ⟨⟨J', l, rl', av', _, ⟨⟨⟨hmm, hpx⟩, hrx, hab.trans h.ab.symm, h.d1, fun k e hf => ?_, fun x hx k e hf => ?_⟩, h.ab, fun k hk => ?_, sn_go h.sn (fun y hy g hg => ⟨fun j hj => World.cell?_of_block (a := ⟨g, j, none⟩) (hfp g (.inr (.inr ⟨y, hy, hg⟩))), .inl ⟨y, hy, hg, Nat.le_refl _⟩⟩) (fun g hd => ?_)⟩⟩, fun k hk => ?_⟩
  · rcases re.nw k e with e2 | e2
    · exact h.d2 k e2 hf
    · have := htop k hf; omega
  · rcases re.lg x hx k e with ⟨y, hy, e2⟩ | e2
    · exact h.d3 y hy k e2 hf
    · have := htop k hf; omega
  · obtain ⟨c1, c2, c3, c4, c5⟩ := h.cc k hk
    refine ⟨hJJ k c1, c2, c3, fun e => ?_, fun x hx e => ?_⟩
    · rcases re.nw k e with e2 | e2
      · exact c4 e2
      · have := h.jp.mm.ilt c1; omega
    · rcases re.lg x hx k e with ⟨y, hy, e2⟩ | e2
      · exact c5 y hy e2
      · have := h.jp.mm.ilt c1; omega
  · obtain ⟨q1, q2, q3, q4, q5, q6⟩ := hd
    refine ⟨re.fr g q1 q4 q5, ⟨hJJ g q1, q2, q3, q4, fun e => ?_, fun x hx e => ?_⟩⟩
    · rcases re.nw g e with e2 | e2
      · exact q5 e2
      · have := h.jp.mm.ilt q1; omega
    · rcases re.lg x hx g e with ⟨y, hy, e2⟩ | e2
      · exact q6 y hy e2
      · have := h.jp.mm.ilt q1; omega
  · obtain ⟨c1, c2, c3, c4, _⟩ := h.cc k hk
    exact re.fr k c1 c3 c4
theorem JA.sub {D : Nat → Prop} (h : JA c rb s C X) (hD : ∀ k, D k → C k) : JA c rb s D X := by
  obtain ⟨I, l, rl, av, tn, h1⟩ := h
  exact ⟨I, l, rl, av, tn, h1.jr, h1.ab, fun k hk => h1.cc k (hD k hk), sn_go h1.sn (fun y hy g hg => ⟨fun j hj => rfl, .inl ⟨y, hy, hg, Nat.le_refl _⟩⟩) (fun g hd => ⟨rfl, ⟨hd.1, fun hc => hd.2.1 (hD g hc), hd.2.2⟩⟩)⟩
def PB (c : Cx) (rb : Nat) (k : Int) (s : Am) (C : Nat → Prop) (sh : Value → Prop) (f : Nat) (args : Array Value) (X : World) (e : Ending) (Y : World) : Prop :=
  ∃ v s', sh v ∧ e = .returned v ∧ AT c k s s' ∧ (∀ k, C k → Y.heap[k]? = X.heap[k]?) ∧ ∀ Y', Below Y.heap.size Y Y' → Calls Tryz.prog f args Y' fun e Z => e = .returned v ∧ JA c rb s' C Z ∧ ∀ k, C k → Z.heap[k]? = Y'.heap[k]?
theorem PB.go {sh : Value → Prop} {f : Nat} {args : Array Value} {e : Ending} (h : JB c rb s C I X l rl av tn) (s' : Am) (pd : PD c tn L' s.L I X Y l l' last' (fun _ => False)) (e1 : XC.ab l' = s'.l) (e2 : L' = s'.L) (e3 : last' = s'.last) (v : Value) (hv : sh v) (he : e = .returned v) (ht : AT c k s s')
    (hr : ∀ {C' : Nat → Prop} Y' J, JH c rb s' C' J Y' l' rl s.last s.L av tn → Calls Tryz.prog f args Y' fun e Z => e = .returned v ∧ ∃ rl' av', RE c rb s'.L s'.L J Y' Z rl rl' s'.last av av' ∧ XC.ab rl' = s'.l) : PB c rb k s C sh f args X e Y := by
  refine ⟨v, s', hv, he, ht, (h.half pd (Below.refl _ _) e1 e2 e3).2, fun Y' hb => ?_⟩
  obtain ⟨⟨J, hJ⟩, _⟩ := h.half pd hb e1 e2 e3
  refine (hr Y' J hJ).mono fun e Z ⟨h1, rl', av', h2, h3⟩ => ⟨h1, ?_⟩
  obtain ⟨q1, q2⟩ := hJ.fin h2 h3
  exact ⟨q1.sub (fun k hk => .inl hk), fun k hk => q2 k (.inl hk)⟩
theorem AT.upd' {a b : List (Int × Rm)} (h : s.l = a ++ (rd, r) :: b) (hu : UP c k r r' s.L L') : AT c k s ⟨a ++ (rd, r') :: b, s.last, L'⟩ := by
  obtain ⟨l, last, L⟩ := s
  have h' : l = a ++ (rd, r) :: b := h
  subst h'
  exact AT.upd a b rd r r' L L' last hu
theorem AT.del' {a b : List (Int × Rm)} (h : s.l = a ++ (rd, r) :: b) : AT c k s ⟨a ++ b, s.last, s.L⟩ := by
  obtain ⟨l, last, L⟩ := s
  have h' : l = a ++ (rd, r) :: b := h
  subst h'
  exact AT.del a b rd r L last
def shI (v : Value) : Prop := ∃ E : Int, v = .int .i64 E
def shN (v : Value) : Prop := ∃ n E : Int, v = .tuple #[.int .u64 n, .int .i64 E]
theorem shI_mk (E : Int) : shI (.int .i64 E) := ⟨E, rfl⟩
theorem JB.rln (h : JB c rb s C I X l rl av tn) (hB : Bd N s) : l.length = rl.length ∧ rl.length ≤ N := by
  have e1 := congrArg List.length h.jr.ab
  have e2 := congrArg List.length h.ab
  have := hB.n
  rw [ab_len, ab_len] at e1
  rw [ab_len] at e2
  omega
theorem JB.mem (h : JB c rb s C I X l rl av tn) (hB : Bd N s) (hl : l = a ++ (rd, r, lv) :: b) : r.log.length ≤ N + 1 ∧ r.log ≠ [] ∧ r.recs ≤ N ∧ r.ctr ≤ N := by
  have : (rd, r) ∈ s.l := by rw [← h.ab, hl, ab_mid]; simp
  exact hB.r _ this
theorem do_act (h : JB c rb s C I X l rl av tn) (hB : Bd N s) (hN : N ≤ 1000) (hrd : iOk rd) :
    Calls Tryz.prog 28 #[.pointer (some ⟨c.xb, 0, none⟩), .int .i64 rd] X fun e Y => PB c rb k s C shI 37 #[.pointer (some ⟨rb, 0, none⟩), .int .i64 rd] X e Y := by
  have hab := h.jr.ab
  obtain ⟨hln, hrn⟩ := h.rln hB
  have hsl := h.ab
  rcases first_split l rd with hno | ⟨a, r, lv, b, hl, hna⟩
  · exact (act_no h.jr.jp hrd hno).mono fun e Y ⟨he, hb⟩ => PB.go h s (PD.refl h.jr.jp hb) h.ab rfl rfl _ (shI_mk _) he (AT.same _) (fun Y' J hH => (ract_no hH.rx (by omega) (ab_no hab hno)).mono fun e Z ⟨h1, h2⟩ => ⟨h1, rl, av, by subst h2; exact RE.refl hH.jp.mm hH.rx (Below.refl _ _), hab.trans h.ab⟩)
  · skip
    obtain ⟨hq1, hq2, hq3, hq4⟩ := h.mem hB hl
    obtain ⟨a', lv2, b', hrl, ea, eb⟩ := ab_split (hl ▸ hab)
    have hna' := ab_no ea hna
    have hsl2 : s.l = ab a ++ (rd, r) :: ab b := by rw [← hsl, hl, ab_mid]
    have hlen2 : (a' ++ (rd, r, lv2) :: b').length < 1000000 := by rw [← hrl]; omega
    by_cases hst : r.st = 1
    · exact (act_ok h.jr.jp hrd hl hst).mono fun e Y ⟨lv', he, pd⟩ => PB.go h ⟨ab a ++ (rd, { r with st := 2 }) :: ab b, s.last, s.L⟩ pd (ab_mid _ _ _ _ _) rfl rfl _ (shI_mk _) he (AT.upd' hsl2 (UP.st r 2 s.L (.inl ⟨rfl, hst⟩))) (fun Y' J hH => by
        have hx := hH.rx
        rw [hrl] at hx ⊢
        exact (ract_ok hx hlen2 hna' hst).mono fun e Z ⟨h1, h2⟩ => ⟨h1, _, av, RE.of_rv hH.jp.mm hx h2.rv lg_upd, by rw [ab_mid, ea, eb]⟩)
    · exact (act_st h.jr.jp hrd hl hst).mono fun e Y ⟨he, hb⟩ => PB.go h s (PD.refl h.jr.jp hb) h.ab rfl rfl _ (shI_mk _) he (AT.same _) (fun Y' J hH => by
        have hx := hH.rx
        rw [hrl] at hx
        exact (ract_st hx hlen2 hna' hst).mono fun e Z ⟨h1, h2⟩ => ⟨h1, rl, av, by subst h2; exact RE.refl hH.jp.mm hH.rx (Below.refl _ _), hab.trans h.ab⟩)
end
end Go.Proofs.YtekbppfocnbhbaaGreat.XC
