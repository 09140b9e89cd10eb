/- realm: measures: mathematics; a record measured by the reference; what a caller may write between both halves. -/
import Derived.Test.YtekbppfocnbhbaaGreatRq
set_option linter.unusedVariables false
set_option linter.unusedSimpArgs false
namespace Go.Proofs.YtekbppfocnbhbaaGreat.XC
open Go.RowKit

theorem fnd_app2 {q : R5.Qn} {A : List UInt8} : ∀ {l : Lg} (r : Lg), R5.fndA q l = some A → R5.fndA q (l ++ r) = some A
  | [], r, h => by unfold R5.fndA at h; cases h
  | e :: l, r, h => by
    rw [List.cons_append]
    unfold R5.fndA at h ⊢
    split at h
    · rename_i he; rw [if_pos he]; exact h
    · rename_i he; rw [if_neg he]; exact fnd_app2 r h
theorem nx_ext2 (D : List (List UInt8)) (L : Lg) (q : R5.Qn) : ∃ M, (R5.nx D L q).2 = L ++ M := by
  unfold R5.nx
  cases h : R5.fndA q L with
  | some A => exact ⟨[], by simp⟩
  | none => exact ⟨_, rfl⟩
def ch (L : Lg) : List UInt8 → List Rd → Option (List UInt8)
  | m, [] => some m
  | m, x :: xs => (R5.fndA (qOf m x) L).bind fun A => ch L A xs
theorem ch_app (L : Lg) : ∀ (m : List UInt8) (xs : List Rd) (x : Rd), ch L m (xs ++ [x]) = (ch L m xs).bind fun A => R5.fndA (qOf A x) L
  | m, [], x => by
    show (R5.fndA (qOf m x) L).bind (fun A => some A) = R5.fndA (qOf m x) L
    cases R5.fndA (qOf m x) L <;> rfl
  | m, y :: ys, x => by
    show (R5.fndA (qOf m y) L).bind (fun A => ch L A (ys ++ [x])) = ((R5.fndA (qOf m y) L).bind fun A => ch L A ys).bind fun A => R5.fndA (qOf A x) L
    cases R5.fndA (qOf m y) L with
    | none => rfl
    | some A => exact ch_app L A ys x
theorem ch_ext {L : Lg} (M : Lg) : ∀ {m : List UInt8} {xs : List Rd} {A : List UInt8}, ch L m xs = some A → ch (L ++ M) m xs = some A
  | m, [], A, h => h
  | m, y :: ys, A, h => by
    have h' : (R5.fndA (qOf m y) L).bind (fun B => ch L B ys) = some A := h
    show (R5.fndA (qOf m y) (L ++ M)).bind (fun B => ch (L ++ M) B ys) = some A
    cases hq : R5.fndA (qOf m y) L with
    | none => rw [hq] at h'; cases h'
    | some B => rw [hq] at h'; rw [fnd_app2 M hq]; exact ch_ext M h'
theorem ch_take {L : Lg} : ∀ {m : List UInt8} {xs : List Rd} {A : List UInt8} (k : Nat), ch L m xs = some A → ∃ B, ch L m (xs.take k) = some B
  | m, xs, A, 0, h => ⟨m, by rw [List.take_zero]; rfl⟩
  | m, [], A, k + 1, h => ⟨m, rfl⟩
  | m, y :: ys, A, k + 1, h => by
    have h' : (R5.fndA (qOf m y) L).bind (fun B => ch L B ys) = some A := h
    cases hq : R5.fndA (qOf m y) L with
    | none => rw [hq] at h'; cases h'
    | some B =>
      rw [hq] at h'
      obtain ⟨D, hD⟩ := ch_take k (show ch L B ys = some A from h')
      refine ⟨D, ?_⟩
      show (R5.fndA (qOf m y) L).bind (fun B => ch L B (ys.take k)) = some D
      rw [hq]; exact hD
theorem ch_next {L : Lg} {m B A : List UInt8} {xs : List Rd} {k : Nat} {x : Rd} (h : ch L m xs = some A) (hB : ch L m (xs.take k) = some B) (hx : xs[k]? = some x) : ∃ D, R5.fndA (qOf B x) L = some D ∧ ch L m (xs.take (k + 1)) = some D := by
  obtain ⟨D, hD⟩ := ch_take (k + 1) h
  have e : xs.take (k + 1) = xs.take k ++ [x] := by rw [List.take_add_one, hx]; rfl
  have h2 := hD
  rw [e, ch_app, hB] at h2
  exact ⟨D, h2, hD⟩
def RecG (rec : Rd) : Prop := (∃ V, V.length = 32 ∧ rec = rec1 V) ∨ RecOk rec
structure MI (s : Am) : Prop where
  mc : ∀ x ∈ s.l, ch s.L PC.Z32 x.2.log = some x.2.meas
  rg : ∀ x ∈ s.l, ∀ y ∈ x.2.log, RecG y
section
variable {c : Cx} {rb tn last last' : Nat} {L R R' L' : Lg} {C C2 D I J : Nat → Prop} {X Y Y' Z W w : World} {rl rl' l l' : List En} {av av' : Value} {a : Ac} {s s' : Am} {k : Int} {N pb q g o : Nat} {rd : Int} {r r' : Rm}
theorem up_key {r r' : Rm} {L L' : Lg} (h : UP c k r r' L L') (h1 : ch L PC.Z32 r.log = some r.meas) (h2 : ∀ y ∈ r.log, RecG y) : (∃ M, L' = L ++ M) ∧ ch L' PC.Z32 r'.log = some r'.meas ∧ ∀ y ∈ r'.log, RecG y := by
  cases h using UP.elim with
  | st r s L h => exact ⟨⟨[], by simp⟩, h1, h2⟩
  | recs r n L h => exact ⟨⟨[], by simp⟩, h1, h2⟩
  | ctr r L h => exact ⟨⟨[], by simp⟩, h1, h2⟩
  | tree r t L => exact ⟨⟨[], by simp⟩, h1, h2⟩
  | grow r rec n L g1 g2 g3 =>
    obtain ⟨M, hM⟩ := nx_ext2 c.D L (qOf r.meas rec)
    refine ⟨⟨M, hM⟩, ?_, fun y hy => ?_⟩
    · show ch (R5.nx c.D L (qOf r.meas rec)).2 PC.Z32 (r.log ++ [rec]) = some (R5.nx c.D L (qOf r.meas rec)).1
      rw [ch_app, hM, ch_ext M h1]
      show R5.fndA (qOf r.meas rec) (L ++ M) = _
      rw [← hM]; exact nx_found _ _ _
    · have hy' : y ∈ r.log ++ [rec] := hy
      rcases List.mem_append.1 hy' with hy | hy
      · exact h2 y hy
      · rw [List.mem_singleton.1 hy]; exact .inr g2
theorem MI.step (h : MI s) (ht : AT c k s s') : MI s' := by
  have h1 := h.mc
  have h2 := h.rg
  cases ht using AT.elim with
  | same => exact h
  | upd a b rd r r' L L' last hu =>
    have hm : (rd, r) ∈ a ++ (rd, r) :: b := by simp
    obtain ⟨⟨M, rfl⟩, k1, k2⟩ := up_key hu (h1 _ hm) (h2 _ hm)
    have hin : ∀ x ∈ a ++ (rd, r') :: b, x = (rd, r') ∨ x ∈ a ++ (rd, r) :: b := fun x hx => by
      rcases List.mem_append.1 hx with hx | hx
      · exact .inr (by simp [hx])
      · rcases List.mem_cons.1 hx with hx | hx
        · exact .inl hx
        · exact .inr (by simp [hx])
    refine ⟨fun x hx => ?_, fun x hx => ?_⟩
    · rcases hin x hx with rfl | hx
      · exact k1
      · exact ch_ext M (h1 x hx)
    · rcases hin x hx with rfl | hx
      · exact k2
      · exact h2 x hx
  | del a b rd r L last =>
    have hsub : ∀ x ∈ a ++ b, x ∈ a ++ (rd, r) :: b := fun x hx => by rcases List.mem_append.1 hx with hx | hx <;> simp [hx]
    exact ⟨fun x hx => h1 x (hsub x hx), fun x hx => h2 x (hsub x hx)⟩
  | new l last L rd root V nodes tree hV =>
    obtain ⟨M1, e1⟩ := nx_ext2 c.D L (cq1 V)
    obtain ⟨M2, e2⟩ := nx_ext2 c.D (R5.nx c.D L (cq1 V)).2 (cq2 c.m (last + 1))
    have eL : newL c L (last + 1) V = L ++ (M1 ++ M2) := by unfold newL; rw [e2, e1, List.append_assoc]
    have hf : R5.fndA (cq1 V) (newL c L (last + 1) V) = some (R5.nx c.D L (cq1 V)).1 := by unfold newL; rw [e2]; exact fnd_app2 M2 (nx_found _ _ _)
    refine ⟨fun x hx => ?_, fun x hx => ?_⟩
    · rcases List.mem_append.1 hx with hx | hx
      · show ch (newL c L (last + 1) V) _ _ = _
        rw [eL]; exact ch_ext _ (h1 x hx)
      · rw [List.mem_singleton.1 hx]
        show (R5.fndA (cq1 V) (newL c L (last + 1) V)).bind (fun A => some A) = some (R5.nx c.D L (cq1 V)).1
        rw [hf]; rfl
    · rcases List.mem_append.1 hx with hx | hx
      · exact h2 x hx
      · rw [List.mem_singleton.1 hx]
        intro y hy
        have hy' : y ∈ [rec1 V] := hy
        exact .inl ⟨V, hV, List.mem_singleton.1 hy'⟩
theorem uq : ∀ {l : List (Int × Rm)}, (l.map (·.1)).Nodup → (rd, r) ∈ l → (rd, r') ∈ l → r = r'
  | [], _, h, _ => by cases h
  | x :: l, hn, h1, h2 => by
    rw [List.map_cons, List.nodup_cons] at hn
    rcases List.mem_cons.1 h1 with e1 | h1 <;> rcases List.mem_cons.1 h2 with e2 | h2
    · rw [← e1] at e2; exact (congrArg Prod.snd e2).symm
    · exact absurd (List.mem_map.2 ⟨(rd, r'), h2, by rw [← e1]⟩) hn.1
    · exact absurd (List.mem_map.2 ⟨(rd, r), h1, by rw [← e2]⟩) hn.1
    · exact uq hn.2 h1 h2
theorem at_rel (ht : AT c k s s') (hn : (s.l.map (·.1)).Nodup) (hn' : (s'.l.map (·.1)).Nodup) (h : (rd, r) ∈ s.l) (h' : (rd, r') ∈ s'.l) : r' = r ∨ ∃ L L', UP c k r r' L L' := by
  cases ht using AT.elim with
  | same => exact .inl (uq hn h' h)
  | upd a b rd0 r0 r0' L L' last hu =>
    have hm : (rd0, r0) ∈ a ++ (rd0, r0) :: b := by simp
    rcases List.mem_append.1 h' with h' | h'
    · exact .inl (uq hn (show (rd, r') ∈ a ++ (rd0, r0) :: b by simp [h']) h)
    · rcases List.mem_cons.1 h' with e | h'
      · obtain ⟨e1, e2⟩ := Prod.mk.inj e
        subst e1 e2
        have e3 := uq hn h hm
        subst e3
        exact .inr ⟨L, L', hu⟩
      · exact .inl (uq hn (show (rd, r') ∈ a ++ (rd0, r0) :: b by simp [h']) h)
  | del a b rd0 r0 L last =>
    exact .inl (uq hn (show (rd, r') ∈ a ++ (rd0, r0) :: b by rcases List.mem_append.1 h' with h' | h' <;> simp [h']) h)
  | new l last L rd0 root V nodes tree hV => exact .inl (uq hn' h' (show (rd, r) ∈ l ++ [(rd0, newR c L (last + 1) root V nodes tree)] by simp [h]))
theorem up_old {r r' : Rm} {L L' : Lg} (hu : UP c k r r' L L') (h : r.st ≠ 1) : r'.meas = r.meas ∧ r'.st ≠ 1 := by
  cases hu using UP.elim with
  | st r s L h' =>
    rcases h' with ⟨_, e⟩ | e
    · exact absurd e h
    · exact ⟨rfl, fun h2 => by have h3 : s = 1 := h2; omega⟩
  | recs r n L h1 => exact ⟨rfl, h⟩
  | ctr r L h1 => exact ⟨rfl, h⟩
  | tree r t L => exact ⟨rfl, h⟩
  | grow r rec n L g1 g2 g3 => exact absurd g1 h
theorem JA.once (h : JA c rb s C X) : (s.l.map (·.1)).Nodup := by
  obtain ⟨I, l, rl, av, tn, h⟩ := h
  have e : s.l.map (·.1) = l.map (·.1) := by rw [← h.ab]; unfold ab; rw [List.map_map]; rfl
  rw [e]; exact h.jr.jp.px.map.once
theorem JA.alen (h : JA c rb s C X) (q : R5.Qn) : (R5.nx c.D s.L q).1.length = 32 := by
  obtain ⟨I, l, rl, av, tn, h⟩ := h
  exact h.jr.jp.mm.alen q
theorem JA.flen (h : JA c rb s C X) {q : R5.Qn} {A : List UInt8} (hA : R5.fndA q s.L = some A) : A.length = 32 := by
  have := h.alen q; rwa [nx_of c.D hA] at this
theorem JB.rq (h : JB c rb s C I X l rl av tn) (hq : R5.RQ c.w c.n c.og c.mo c.rg c.m c.D s.L s.L I X Y) : JA c rb s C Y ∧ ∀ k, C k → Y.heap[k]? = X.heap[k]? := by
  obtain ⟨h1, h2, h3⟩ := hq
  refine ⟨⟨I, l, rl, av, _, ⟨⟨h1, h.jr.jp.px.keep (Y := Y) (fun _ h => h) (fun k hk _ => h2 k (h.jr.jp.px.fI k hk).1)⟩, h.jr.rx.keep (Y := Y) (fun k hk => by
    rcases hk with rfl | hk | ⟨x, hx, hk⟩
    · exact h2 _ h.jr.rx.fI.1
    · exact h2 k (h.jr.rx.aI k hk).1
    · exact h2 k (h.jr.rx.lI x hx k hk).1) (fun _ h => h), h.jr.ab, h.jr.d1, h.jr.d2, h.jr.d3⟩, h.ab, h.cc⟩, fun k hk => h2 k (h.cc k hk).1⟩
theorem JA.meas (h : JA c rb s C X) (hB : Bd N s) (hN : N ≤ 1000) (m : List UInt8) (hm : m.length = 32) (rec : Rd) (hr : RecG rec) (A : List UInt8) (hA : R5.fndA (qOf m rec) s.L = some A) :
    Calls Tryz.prog 18 #[.pointer (some ⟨rb, 0, none⟩), .agg (m.map B8).toArray, .agg (rdL rec).toArray] X fun e Y => e = .returned (.agg (A.map B8).toArray) ∧ JA c rb s C Y ∧ ∀ k, C k → Y.heap[k]? = X.heap[k]? := by
  have hal := h.alen
  have hL := hB.L
  obtain ⟨I, l, rl, av, tn, h⟩ := h
  have hnx := nx_of c.D hA
  rcases hr with ⟨V, hV, rfl⟩ | ⟨hok, ⟨pg, g, hp, rfl⟩ | ⟨pc, rs, run, hpc, hrs, rfl⟩⟩
  · have := rms1 h.jr.jp.mm h.jr.rx.cells.1 h.jr.rx.fI.1 (by omega) (m.map B8).toArray (rec1 V) (rec1_ok hV) rfl (hal _)
    have e : R5.nx c.D s.L ⟨1, List.replicate 32 0, 1, (rec1 V).value⟩ = (A, s.L) := hnx
    rw [e] at this
    exact this.mono fun e Y ⟨h1, h2⟩ => ⟨h1, h.rq h2⟩
  · have := rms2 h.jr.jp.mm h.jr.rx.cells.1 h.jr.rx.fI.1 (by omega) m hm (rec2 pg g) hok rfl pg rfl hp (hal _)
    rw [qOf2] at hnx
    have e : R5.nx c.D s.L ⟨1, List.replicate 32 0, 2, m ++ W1.le 8 pg ++ (rec2 pg g).data⟩ = (A, s.L) := by rw [List.append_assoc]; exact hnx
    rw [e] at this
    exact this.mono fun e Y ⟨h1, h2⟩ => ⟨h1, h.rq h2⟩
  · have := rms3 h.jr.jp.mm h.jr.rx.cells.1 h.jr.rx.fI.1 (by omega) m hm (rec3 pc rs run) hok rfl hpc hrs (hal _)
    rw [qOf3] at hnx
    have e : R5.nx c.D s.L ⟨1, List.replicate 32 0, 3, m ++ PC.cbL (rec3 pc rs run).pc (rec3 pc rs run).rs (rec3 pc rs run).run⟩ = (A, s.L) := hnx
    rw [e] at this
    exact this.mono fun e Y ⟨h1, h2⟩ => ⟨h1, h.rq h2⟩
theorem get_both (h : JA c rb s C X) (hB : Bd N s) (hN : N ≤ 1000) (hrd : iOk rd) :
    ∃ (r : Rm) (E : Int), r.ok ∧ (E = 6 ∨ E = 0 ∧ (rd, r) ∈ s.l) ∧
      (∀ (C : Nat → Prop) (X : World), JA c rb s C X → Calls Tryz.prog 12 #[.pointer (some ⟨c.xb, 0, none⟩), .int .i64 rd] X fun e Y => GEnd X r E e Y) := by
  rcases am_split s.l rd with hno | ⟨sa, r, sb, hs, hna⟩
  · exact ⟨zR, 6, zR_ok, .inl rfl, fun C X h => h.get_no hrd hno⟩
  · exact ⟨r, 0, h.rok (rd, r) (by rw [hs]; simp), .inr ⟨rfl, by rw [hs]; simp⟩, fun C X h => h.get_is hB hN hrd hs⟩
theorem JA.wr (h : JA c rb s C X) (hn : ∀ k, C k → c.n ≤ k) (hF : R5.Fr C X Y) : JA c rb s (fun k => C k ∨ (X.heap.size ≤ k ∧ k < Y.heap.size)) Y := by
  obtain ⟨I, l, rl, av, tn, h⟩ := h
  have hst : ∀ k, k < X.heap.size → ¬ C k → Y.heap[k]? = X.heap[k]? := hF.block
  have hlt : ∀ k, I k → k < X.heap.size := fun k hk => h.jr.jp.mm.ilt hk
  have hF2 : R5.Fr (fun k => c.n ≤ k ∧ I k) X Y := ⟨hF.os, hF.tape, hF.output, hF.size, fun k hk hx => hst k hk (fun hc => hx ⟨hn k hc, (h.cc k hc).1⟩)⟩
  have hmm := h.jr.jp.mm.go (J := fun k => I k ∨ (X.heap.size ≤ k ∧ k < Y.heap.size)) hF2 (fun k hk => hk)
  have hpx := h.jr.jp.px.keep (Y := Y) (J := fun k => I k ∨ (X.heap.size ≤ k ∧ k < Y.heap.size)) (fun _ h => .inl h) (fun k hk hl => hst k hl (fun hc => (h.cc k hc).2.1 hk))
  have hrx := h.jr.rx.keep (Y := Y) (J := fun k => I k ∨ (X.heap.size ≤ k ∧ k < Y.heap.size)) (fun k hk => by
    rcases hk with rfl | hk | ⟨x, hx, hk⟩
    · exact hst _ (hlt _ h.jr.rx.fI.1) (fun hc => (h.cc _ hc).2.2.1 rfl)
    · exact hst k (hlt k (h.jr.rx.aI k hk).1) (fun hc => (h.cc k hc).2.2.2.1 hk)
    · exact hst k (hlt k (h.jr.rx.lI x hx k hk).1) (fun hc => (h.cc k hc).2.2.2.2 x hx hk)) (fun _ h => .inl h)
  refine ⟨_, l, rl, av, _, ⟨⟨hmm, hpx⟩, hrx, h.jr.ab, h.jr.d1, h.jr.d2, h.jr.d3⟩, h.ab, fun k hk => ?_⟩
  rcases hk with hk | hk
  · obtain ⟨c1, c2, c3, c4, c5⟩ := h.cc k hk
    exact ⟨.inl c1, c2, c3, c4, c5⟩
  · refine ⟨.inr hk, fun hf => ?_, fun e => ?_, fun e => ?_, fun x hx e => ?_⟩
    · have := h.jr.jp.px.top k hf; omega
    · have := hlt _ h.jr.rx.fI.1; omega
    · have := hlt _ (h.jr.rx.aI k e).1; omega
    · have := hlt _ (h.jr.rx.lI x hx k e).1; omega
theorem JH.wr {last : Nat} {R : Lg} (h : JH c rb s C J Y l rl last R av tn) (hF : R5.Fr (fun k => C k ∧ c.n ≤ k) Y Y') : ∃ tn', JH c rb s (fun k => C k ∨ (Y.heap.size ≤ k ∧ k < Y'.heap.size)) (fun k => J k ∨ (Y.heap.size ≤ k ∧ k < Y'.heap.size)) Y' l rl last R av tn' := by
  have hst : ∀ k, k < Y.heap.size → ¬ C k → Y'.heap[k]? = Y.heap[k]? := fun k hk hn => hF.block k hk (fun hc => hn hc.1)
  have hlt : ∀ k, J k → k < Y.heap.size := fun k hk => h.jp.mm.ilt hk
  have hF2 : R5.Fr (fun k => c.n ≤ k ∧ J k) Y Y' := ⟨hF.os, hF.tape, hF.output, hF.size, fun k hk hx => hF.block k hk (fun hc => hx ⟨hc.2, (h.cc k hc.1).1⟩)⟩
  have hmm := h.jp.mm.go (J := fun k => J k ∨ (Y.heap.size ≤ k ∧ k < Y'.heap.size)) hF2 (fun k hk => hk)
  have hpx := h.jp.px.keep (Y := Y') (J := fun k => J k ∨ (Y.heap.size ≤ k ∧ k < Y'.heap.size)) (fun _ h => .inl h) (fun k hk hl => hst k hl (fun hc => (h.cc k hc).2.1 hk))
  have hrx := h.rx.keep (Y := Y') (J := fun k => J k ∨ (Y.heap.size ≤ k ∧ k < Y'.heap.size)) (fun k hk => by
    rcases hk with rfl | hk | ⟨x, hx, hk⟩
    · exact hst _ (hlt _ h.rx.fI.1) (fun hc => (h.cc _ hc).2.2.1 rfl)
    · exact hst k (hlt k (h.rx.aI k hk).1) (fun hc => (h.cc k hc).2.2.2.1 hk)
    · exact hst k (hlt k (h.rx.lI x hx k hk).1) (fun hc => (h.cc k hc).2.2.2.2 x hx hk)) (fun _ h => .inl h)
  refine ⟨_, ⟨⟨hmm, hpx⟩, hrx, h.d1, h.d2, h.d3, h.ab, fun k hk => ?_⟩⟩
  rcases hk with hk | hk
  · obtain ⟨c1, c2, c3, c4, c5⟩ := h.cc k hk
    exact ⟨.inl c1, c2, c3, c4, c5⟩
  · refine ⟨.inr hk, fun hf => ?_, fun e => ?_, fun e => ?_, fun x hx e => ?_⟩
    · have := h.jp.px.top k hf; omega
    · have := hlt _ h.rx.fI.1; omega
    · have := hlt _ (h.rx.aI k e).1; omega
    · have := hlt _ (h.rx.lI x hx k e).1; omega
end
end Go.Proofs.YtekbppfocnbhbaaGreat.XC
