/- The program's oracle and the document's side by side, in ideal mode (as for layer 5, without streams and tags). -/
import Derived.Test.YtekbppfocnbhbaaGreatQM
import Derived.Test.YtekbppfocnbhbaaGreatK9
set_option linter.unusedVariables false
set_option linter.unusedSimpArgs false
namespace Go.Proofs.YtekbppfocnbhbaaGreat.R5
open scoped Classical
open Go.RowKit

/-- What an ideal oracle answers, and its log then. -/
def nx (D : List (List UInt8)) (L : List (Qn × List UInt8)) (q : Qn) : List UInt8 × List (Qn × List UInt8) :=
  match fndA q L with
  | some A => (A, L)
  | none => (drawD D L.length, L ++ [(q, drawD D L.length)])
def pr (m : List UInt8) (D : List (List UInt8)) (L : List (Qn × List UInt8)) : Pra := ⟨true, m, D, L⟩
def rr (m : List UInt8) (D : List (List UInt8)) (L : List (Qn × List UInt8)) : Ora := ⟨true, m, D, L.length, L⟩
theorem pAsk_nx (m : List UInt8) (D : List (List UInt8)) (L : List (Qn × List UInt8)) (q : Qn) : pAsk (pr m D L) q (drawD D L.length) = ((nx D L q).1, pr m D (nx D L q).2) := by
  unfold pAsk nx pr
  show (match fndA q L with | some A => _ | none => _) = _
  cases fndA q L <;> rfl
theorem askO_nx (m : List UInt8) (D : List (List UInt8)) (L : List (Qn × List UInt8)) (q : Qn) : askO (rr m D L) q = ((nx D L q).1, rr m D (nx D L q).2) := by
  unfold askO nx rr
  show (match fndA q L with | some A => _ | none => _) = _
  cases fndA q L <;> simp
theorem nx_len (D : List (List UInt8)) (L : List (Qn × List UInt8)) (q : Qn) : (nx D L q).2.length ≤ L.length + 1 := by
  unfold nx
  cases fndA q L with
  | some A => exact Nat.le_succ _
  | none => simp
/-- The program's oracle at og, the document's at rg, with all that either writes; the blocks of I are as in K. -/
structure MM (w : World) (n tn og mb rg : Nat) (m : List UInt8) (D : List (List UInt8)) (L R : List (Qn × List UInt8)) (I : Nat → Prop) (K X : World) : Prop where
  ex : ∃ S dv ov T dr lv lds, PO w.heap.size og mb S X (pr m D L) dv ov ∧ OR w.heap.size rg T X (rr m D R) dr lv lds 94 ∧ (∀ k, S k → ¬ T k) ∧ (∀ k, dv.ownBlock = some k → ¬ T k ∧ k < n) ∧ (∀ k, I k → ¬ S k ∧ ¬ T k ∧ k < X.heap.size) ∧ (∀ k, T k → k < tn)
  bel : Below w.heap.size w X
  low : w.heap.size ≤ n ∧ n ≤ X.heap.size
  same : ∀ k, I k → X.heap[k]? = K.heap[k]?
section
variable {w K X : World} {n tn og mb rg : Nat} {m : List UInt8} {D : List (List UInt8)} {L R : List (Qn × List UInt8)} {I : Nat → Prop}
theorem MM.step {Y : World} (h : MM w n tn og mb rg m D L R I K X) (hb : Below X.heap.size X Y) : MM w n tn og mb rg m D L R I K Y := by
  obtain ⟨S, dv, ov, T, dr, lv, lds, h1, h2, h3, h4, h5, h6⟩ := h.ex
  exact ⟨⟨S, dv, ov, T, dr, lv, lds, h1.below hb, h2.keep hb.size (fun k hk _ => hb.block k hk), h3, h4, fun k hk => ⟨(h5 k hk).1, (h5 k hk).2.1, Nat.lt_of_lt_of_le (h5 k hk).2.2 hb.size⟩, h6⟩, h.bel.trans (hb.mono h.bel.size), ⟨h.low.1, Nat.le_trans h.low.2 hb.size⟩, fun k hk => (hb.block k (h5 k hk).2.2).trans (h.same k hk)⟩
/-- What the caller makes, and writes in its own memory. -/
theorem MM.upd {Y : World} (h : MM w n tn og mb rg m D L R I K X) (hf : Fr (fun k => n ≤ k ∧ I k) X Y) : MM w n tn og mb rg m D L R (fun k => I k ∨ (X.heap.size ≤ k ∧ k < Y.heap.size)) Y Y := by
  obtain ⟨S, dv, ov, T, dr, lv, lds, h1, h2, h3, h4, h5, h6⟩ := h.ex
  have hs := hf.size
  have hs0 := h.bel.size
  refine ⟨⟨S, dv, ov, T, dr, lv, lds, h1.keep hs (fun k hk hS => hf.block k hk (fun hI => ?_)), h2.keep hs (fun k hk hS => hf.block k hk (fun hI => ?_)), h3, h4, fun k hk => ?_, h6⟩, ⟨hf.os.trans h.bel.os, hf.tape.trans h.bel.tape, hf.output.trans h.bel.output, Nat.le_trans hs0 hs, fun k hk => (hf.block k (by omega) (fun hI => by have := h.low.1; omega)).trans (h.bel.block k hk)⟩, ⟨h.low.1, Nat.le_trans h.low.2 hs⟩, fun k _ => rfl⟩
  · rcases hS with hS | hS
    · exact (h5 k hI.2).1 hS
    · have := (h4 k hS).2; omega
  · rcases hS with hS | hS
    · exact (h5 k hI.2).2.1 hS
    · have := h.low.1; omega
  · rcases hk with hk | hk
    · exact ⟨(h5 k hk).1, (h5 k hk).2.1, Nat.lt_of_lt_of_le (h5 k hk).2.2 hs⟩
    · exact ⟨fun hS => by have := h1.top k hS; omega, fun hT => by have := h2.top k hT; omega, hk.2⟩
theorem MM.back {I' : Nat → Prop} {K' : World} (h : MM w n tn og mb rg m D L R I' K' X) (hI : ∀ k, I k → I' k ∧ K'.heap[k]? = K.heap[k]?) : MM w n tn og mb rg m D L R I K X := by
  obtain ⟨S, dv, ov, T, dr, lv, lds, h1, h2, h3, h4, h5, h6⟩ := h.ex
  exact ⟨⟨S, dv, ov, T, dr, lv, lds, h1, h2, h3, h4, fun k hk => h5 k (hI k hk).1, h6⟩, h.bel, h.low, fun k hk => (h.same k (hI k hk).1).trans (hI k hk).2⟩
theorem MM.at {o : Obj} (h : MM w n tn og mb rg m D L R I K X) {k : Nat} (hk : I k) (hr : K.heap[k]? = some o) : X.heap[k]? = some o := (h.same k hk).trans hr
theorem MM.ilt (h : MM w n tn og mb rg m D L R I K X) {k : Nat} (hk : I k) : k < X.heap.size := by
  obtain ⟨S, dv, ov, T, dr, lv, lds, h1, h2, h3, h4, h5, h6⟩ := h.ex
  exact (h5 k hk).2.2
/-- Behind a call of the program's oracle. -/
theorem MM.left {Y : World} {L' : List (Qn × List UInt8)} {S T : Nat → Prop} {dv ov dr lv : Value} {lds : List Value} (h : MM w n tn og mb rg m D L R I K X) (h1 : PO w.heap.size og mb S X (pr m D L) dv ov) (h2 : OR w.heap.size rg T X (rr m D R) dr lv lds 94) (h3 : ∀ k, S k → ¬ T k) (h4 : ∀ k, dv.ownBlock = some k → ¬ T k ∧ k < n) (h5 : ∀ k, I k → ¬ S k ∧ ¬ T k ∧ k < X.heap.size) (h6 : ∀ k, T k → k < tn)
    (hf : Fr S X Y) (hp : ∃ ov', PO w.heap.size og mb (fun k => S k ∨ (X.heap.size ≤ k ∧ k < Y.heap.size)) Y (pr m D L') dv ov') : MM w n tn og mb rg m D L' R I K Y := by
  obtain ⟨ov', hp⟩ := hp
  have hs := hf.size
  have hs0 := h.bel.size
  refine ⟨⟨_, dv, ov', T, dr, lv, lds, hp, h2.keep hs (fun k hk hT => hf.block k hk (fun hS => hT.elim (h3 k hS) (fun hl => by have := h1.low k hS; omega))), fun k hS hT => hS.elim (fun hS => h3 k hS hT) (fun hg => by have := h2.top k hT; omega), h4, fun k hk => ⟨fun hS => hS.elim (h5 k hk).1 (fun hg => by have := (h5 k hk).2.2; omega), (h5 k hk).2.1, Nat.lt_of_lt_of_le (h5 k hk).2.2 hs⟩, h6⟩,
    ⟨hf.os.trans h.bel.os, hf.tape.trans h.bel.tape, hf.output.trans h.bel.output, Nat.le_trans hs0 hs, fun k hk => (hf.block k (by omega) (fun hS => by have := h1.low k hS; omega)).trans (h.bel.block k hk)⟩, ⟨h.low.1, Nat.le_trans h.low.2 hs⟩, fun k hk => (hf.block k (h5 k hk).2.2 (h5 k hk).1).trans (h.same k hk)⟩
/-- Behind a call of the document's oracle. -/
theorem MM.right {Y : World} {R' : List (Qn × List UInt8)} {S T : Nat → Prop} {dv ov dr lv : Value} {lds : List Value} (h : MM w n tn og mb rg m D L R I K X) (h1 : PO w.heap.size og mb S X (pr m D L) dv ov) (h2 : OR w.heap.size rg T X (rr m D R) dr lv lds 94) (h3 : ∀ k, S k → ¬ T k) (h4 : ∀ k, dv.ownBlock = some k → ¬ T k ∧ k < n) (h5 : ∀ k, I k → ¬ S k ∧ ¬ T k ∧ k < X.heap.size) (h6 : ∀ k, T k → k < tn)
    (hf : Fr T X Y) (hp : ∃ lv' lds', OR w.heap.size rg (fun k => T k ∨ (X.heap.size ≤ k ∧ k < Y.heap.size)) Y (rr m D R') dr lv' lds' 94) : MM w n Y.heap.size og mb rg m D L R' I K Y := by
  obtain ⟨lv', lds', hp⟩ := hp
  have hs := hf.size
  have hs0 := h.bel.size
  refine ⟨⟨S, dv, ov, _, dr, lv', lds', h1.keep hs (fun k hk hS => hf.block k hk (fun hT => hS.elim (fun hS => h3 k hS hT) (fun e => (h4 k e).1 hT))), hp, fun k hS hT => hT.elim (h3 k hS) (fun hg => by have := h1.top k hS; omega), fun k e => ⟨fun hT => hT.elim (h4 k e).1 (fun hg => by have := (h1.dro k e).2; omega), (h4 k e).2⟩, fun k hk => ⟨(h5 k hk).1, fun hT => hT.elim (h5 k hk).2.1 (fun hg => by have := (h5 k hk).2.2; omega), Nat.lt_of_lt_of_le (h5 k hk).2.2 hs⟩, fun k hk => hp.top k hk⟩,
    ⟨hf.os.trans h.bel.os, hf.tape.trans h.bel.tape, hf.output.trans h.bel.output, Nat.le_trans hs0 hs, fun k hk => (hf.block k (by omega) (fun hS => by have := h2.low k hS; omega)).trans (h.bel.block k hk)⟩, ⟨h.low.1, Nat.le_trans h.low.2 hs⟩, fun k hk => (hf.block k (h5 k hk).2.2 (h5 k hk).2.1).trans (h.same k hk)⟩
theorem MM.alen (h : MM w n tn og mb rg m D L R I K X) (q : Qn) : (nx D L q).1.length = 32 := by
  obtain ⟨S, dv, ov, T, dr, lv, lds, h1, h2, h3, h4, h5, h6⟩ := h.ex
  have := pAsk_len (q := q) h1.ok (drawD_len D L.length h1.draws.1)
  rw [pAsk_nx] at this
  exact this
theorem MM.ask (h : MM w n tn og mb rg m D L R I K X) (hll : L.length < 1000000) (dq : Value) (q : Qn) (hq : kOk q) (hdq : HB X dq q.data) (hok : askB q = true) :
    Calls Tryz.prog 79 #[.pointer (some ⟨og, 0, none⟩), .agg (qL q dq).toArray] X fun e Y => e = .returned (okV (nx D L q).1) ∧ MM w n tn og mb rg m D (nx D L q).2 R I K Y := by
  obtain ⟨S, dv, ov, T, dr, lv, lds, h1, h2, h3, h4, h5, h6⟩ := h.ex
  refine (pask_ideal w.heap.size og mb S dq dv ov (pr m D L) q X rfl h.bel.size hll h1 hq hdq hok).mono ?_
  rintro e Y hE
  have hE' : PAsk w.heap.size og mb S X (pAsk (pr m D L) q (drawD D L.length)) dv e Y := hE
  rw [pAsk_nx] at hE'
  obtain ⟨rfl, hf, hp⟩ := hE'
  exact ⟨rfl, h.left h1 h2 h3 h4 h5 h6 hf hp⟩
theorem MM.askBad (h : MM w n tn og mb rg m D L R I K X) (dq : Value) (q : Qn) (hqk : q.key.length = 32) (hbad : askB q = false) :
    Calls Tryz.prog 79 #[.pointer (some ⟨og, 0, none⟩), .agg (qL q dq).toArray] X fun e Y => e = .returned (errV 2) ∧ MM w n tn og mb rg m D L R I K Y := by
  obtain ⟨S, dv, ov, T, dr, lv, lds, h1, h2, h3, h4, h5, h6⟩ := h.ex
  refine (pask_bad og mb dq q X h1.cells.2.2.2.1 hqk hbad).mono ?_
  rintro e Y ⟨rfl, hb⟩
  exact ⟨rfl, h.step hb⟩
theorem MM.dig (h : MM w n tn og mb rg m D L R I K X) (hll : L.length < 1000000) (pv : Value) (d : Int) (ls : List (List UInt8)) (hq : kOk ⟨1, List.replicate 32 0, d, ls.flatten⟩) (hp : HP X pv ls) (hl : ls.length ≤ 1048576) (hr : ls.flatten.length ≤ 1099511627776) (hok : askB ⟨1, List.replicate 32 0, d, ls.flatten⟩ = true) :
    Calls Tryz.prog 78 #[.pointer (some ⟨og, 0, none⟩), .int .i64 d, pv] X fun e Y => e = .returned (okV (nx D L ⟨1, List.replicate 32 0, d, ls.flatten⟩).1) ∧ MM w n tn og mb rg m D (nx D L ⟨1, List.replicate 32 0, d, ls.flatten⟩).2 R I K Y := by
  obtain ⟨S, dv, ov, T, dr, lv, lds, h1, h2, h3, h4, h5, h6⟩ := h.ex
  refine (pdig_ok w.heap.size og mb S pv dv ov (pr m D L) d ls ((nx D L ⟨1, List.replicate 32 0, d, ls.flatten⟩).1, pr m D (nx D L ⟨1, List.replicate 32 0, d, ls.flatten⟩).2) X h.bel.size h1 hp hl hr (h.alen _) (fun W v hb hv => ?_)).mono ?_
  · refine (pask_ideal w.heap.size og mb S v dv ov (pr m D L) _ W rfl (Nat.le_trans h.bel.size hb.size) hll (h1.below hb) hq hv hok).mono ?_
    rintro e Y hE
    have hE' : PAsk w.heap.size og mb S W (pAsk (pr m D L) ⟨1, List.replicate 32 0, d, ls.flatten⟩ (drawD D L.length)) dv e Y := hE
    rw [pAsk_nx] at hE'
    exact hE'
  · rintro e Y ⟨rfl, hf, hp⟩
    exact ⟨rfl, h.left h1 h2 h3 h4 h5 h6 hf hp⟩
theorem MM.key (h : MM w n tn og mb rg m D L R I K X) (hll : L.length < 1000000) (pv : Value) (d : Int) (ls : List (List UInt8)) (hq : kOk ⟨3, m, d, ls.flatten⟩) (hp : HP X pv ls) (hl : ls.length ≤ 1048576) (hr : ls.flatten.length ≤ 1099511627776) (hok : askB ⟨3, m, d, ls.flatten⟩ = true) :
    Calls Tryz.prog 48 #[.pointer (some ⟨og, 0, none⟩), .int .i64 d, pv] X fun e Y => e = .returned (okV (nx D L ⟨3, m, d, ls.flatten⟩).1) ∧ MM w n tn og mb rg m D (nx D L ⟨3, m, d, ls.flatten⟩).2 R I K Y := by
  obtain ⟨S, dv, ov, T, dr, lv, lds, h1, h2, h3, h4, h5, h6⟩ := h.ex
  refine (pkey_ok w.heap.size og mb S pv dv ov (pr m D L) d ls ((nx D L ⟨3, m, d, ls.flatten⟩).1, pr m D (nx D L ⟨3, m, d, ls.flatten⟩).2) X h.bel.size h1 hp hl hr (h.alen _) rfl (fun W v hb hv => ?_)).mono ?_
  · refine (pask_ideal w.heap.size og mb S v dv ov (pr m D L) _ W rfl (Nat.le_trans h.bel.size hb.size) hll (h1.below hb) hq hv hok).mono ?_
    rintro e Y hE
    have hE' : PAsk w.heap.size og mb S W (pAsk (pr m D L) ⟨3, m, d, ls.flatten⟩ (drawD D L.length)) dv e Y := hE
    rw [pAsk_nx] at hE'
    exact hE'
  · rintro e Y ⟨rfl, hf, hp⟩
    exact ⟨rfl, h.left h1 h2 h3 h4 h5 h6 hf hp⟩
theorem MM.retn (h : MM w n tn og mb rg m D L R I K X) : MM w n X.heap.size og mb rg m D L R I K X := by
  obtain ⟨S, dv, ov, T, dr, lv, lds, h1, h2, h3, h4, h5, h6⟩ := h.ex
  exact ⟨⟨S, dv, ov, T, dr, lv, lds, h1, h2, h3, h4, h5, h2.top⟩, h.bel, h.low, h.same⟩
theorem MM.ml (h : MM w n tn og mb rg m D L R I K X) : m.length = 32 := by
  obtain ⟨S, dv, ov, T, dr, lv, lds, h1, h2, h3, h4, h5, h6⟩ := h.ex
  exact h1.ml
/-- The master key of the document's oracle. -/
theorem MM.master (h : MM w n tn og mb rg m D L R I K X) : X.rangeAt rg 1 (m.map B8) := fun j v hv => by
  obtain ⟨S, dv, ov, T, dr, lv, lds, h1, h2, h3, h4, h5, h6⟩ := h.ex
  rw [cell_of_row _ _ (1 + j) _ _ _ h2.row]
  have hj : j < m.length := by have := (List.getElem?_eq_some_iff.1 hv).1; simpa using this
  show (oL true m dr R.length lv).toArray[1 + j]? = some v
  unfold oL
  rw [List.getElem?_toArray, show 1 + j = j + 1 by omega, List.getElem?_cons_succ, List.getElem?_append_left (by simpa using hj)]
  exact hv
/-- The document's Ask, of data that lie in memory of the caller's own. -/
theorem MM.rask (h : MM w n tn og mb rg m D L R I K X) (hll : R.length < 1000000) (dq : Value) (q : Qn) (hqk : q.key.length = 32) (hql : q.data.length ≤ 1099511627776) (hdq : HB X dq q.data) (hI : ∀ k, dq.ownBlock = some k → I k) :
    Calls Tryz.prog 82 #[.pointer (some ⟨rg, 0, none⟩), .agg (qL q dq).toArray] X fun e Y => e = .returned (.agg ((nx D R q).1.map B8).toArray) ∧ MM w n Y.heap.size og mb rg m D L (nx D R q).2 I K Y := by
  obtain ⟨S, dv, ov, T, dr, lv, lds, h1, h2, h3, h4, h5, h6⟩ := h.ex
  refine (ask_any w.heap.size rg T dq dr lv (rr m D R) lds _ q X rfl hll hll hql h.bel.size h2 hqk hdq (fun hne e => (h5 _ (hI _ e)).2.1 h2.sog)).mono ?_
  rintro e Y ⟨rfl, hf, hp⟩
  rw [askO_nx] at hp ⊢
  exact ⟨rfl, h.right h1 h2 h3 h4 h5 h6 hf hp⟩
/-- At rest. -/
theorem MM.fix (h : MM w n tn og mb rg m D L R I K X) : MM w n tn og mb rg m D L R I X X := ⟨h.ex, h.bel, h.low, fun _ _ => rfl⟩
/-- What lies in I can be written, from n on; what is new is in I. -/
theorem MM.go {Y : World} {J : Nat → Prop} (h : MM w n tn og mb rg m D L R I K X) (hf : Fr (fun k => n ≤ k ∧ I k) X Y) (hJ : ∀ k, J k → I k ∨ (X.heap.size ≤ k ∧ k < Y.heap.size)) : MM w n tn og mb rg m D L R J Y Y := by
  have h1 := h.upd hf
  exact h1.back (fun k hk => ⟨hJ k hk, rfl⟩)
end
end Go.Proofs.YtekbppfocnbhbaaGreat.R5
