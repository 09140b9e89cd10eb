/- realm: counts, along a walk. -/
import Derived.Test.YtekbppfocnbhbaaGreatRn
import Derived.Test.YtekbppfocnbhbaaGreatXW
import Derived.Deep.CutRange
set_option linter.unusedVariables false
set_option linter.unusedSimpArgs false
namespace Go.Proofs.YtekbppfocnbhbaaGreat.XC
open Go.RowKit

theorem ab_split' : ∀ {l : List En} {sa sb : List (Int × Rm)} {rd : Int} {r : Rm}, ab l = sa ++ (rd, r) :: sb → ∃ a lv b, l = a ++ (rd, r, lv) :: b ∧ ab a = sa ∧ ab b = sb
  | [], sa, sb, rd, r, h => by exact absurd h (by simp [ab])
  | x :: l, [], sb, rd, r, h => by
    have h' : (x.1, x.2.1) :: ab l = (rd, r) :: sb := h
    injection h' with h1 h2
    obtain ⟨x1, x2, x3⟩ := x
    simp only [Prod.mk.injEq] at h1
    obtain ⟨rfl, rfl⟩ := h1
    exact ⟨[], x3, l, rfl, rfl, h2⟩
  | x :: l, y :: sa, sb, rd, r, h => by
    have h' : (x.1, x.2.1) :: ab l = y :: (sa ++ (rd, r) :: sb) := h
    injection h' with h1 h2
    obtain ⟨a, lv, b, e1, e2, e3⟩ := ab_split' h2
    refine ⟨x :: a, lv, b, by rw [e1]; rfl, ?_, e3⟩
    show (x.1, x.2.1) :: ab a = y :: sa
    rw [h1, e2]
theorem ab_no' {l : List En} {sl : List (Int × Rm)} {rd : Int} (h : ab l = sl) : (∀ x ∈ sl, x.1 ≠ rd) ↔ NoRd l rd := by
  subst h
  constructor
  · intro h x hx e
    exact h (x.1, x.2.1) (List.mem_map.2 ⟨x, hx, rfl⟩) e
  · intro h x hx e
    obtain ⟨y, hy, rfl⟩ := List.mem_map.1 hx
    exact h y hy e
theorem am_split (sl : List (Int × Rm)) (rd : Int) : (∀ x ∈ sl, x.1 ≠ rd) ∨ ∃ sa r sb, sl = sa ++ (rd, r) :: sb ∧ ∀ x ∈ sa, x.1 ≠ rd := by
  induction sl with
  | nil => exact .inl (fun x hx => by cases hx)
  | cons x l ih =>
    by_cases hx : x.1 = rd
    · obtain ⟨x1, x2⟩ := x
      have hx' : x1 = rd := hx
      subst hx'
      exact .inr ⟨[], x2, l, rfl, fun x hx => by cases hx⟩
    · rcases ih with h | ⟨a, r, b, rfl, hn⟩
      · exact .inl (fun y hy => by
          rcases List.mem_cons.1 hy with rfl | hy
          · exact hx
          · exact h y hy)
      · exact .inr ⟨x :: a, r, b, rfl, fun y hy => by
          rcases List.mem_cons.1 hy with rfl | hy
          · exact hx
          · exact hn y hy⟩
section
variable {c : Cx} {rb tn last last' : Nat} {L R R' L' : Lg} {C C2 I J : Nat → Prop} {X Y Y' Z W : World} {rl rl' l l' : List En} {av av' : Value} {a : Ac} {s s' : Am} {k : Int} {N : Nat} {rd : Int} {r r' : Rm} {sa sb : List (Int × Rm)}
theorem JA.get_no (h : JA c rb s C X) (hrd : iOk rd) (hno : ∀ x ∈ s.l, x.1 ≠ rd) :
    Calls Tryz.prog 12 #[.pointer (some ⟨c.xb, 0, none⟩), .int .i64 rd] X fun e Y => GEnd X zR 6 e Y := by
  obtain ⟨I, l, rl, av, tn, h⟩ := h
  exact get_any h.jr.jp hrd zR (.slice none 0 0) 6 (.inl ⟨(ab_no' h.ab).1 hno, rfl, rfl, rfl⟩) (by decide)
theorem JA.get_is (h : JA c rb s C X) (hB : Bd N s) (hN : N ≤ 1000) (hrd : iOk rd) (hs : s.l = sa ++ (rd, r) :: sb) :
    Calls Tryz.prog 12 #[.pointer (some ⟨c.xb, 0, none⟩), .int .i64 rd] X fun e Y => GEnd X r 0 e Y := by
  obtain ⟨I, l, rl, av, tn, h⟩ := h
  obtain ⟨a, lv, b, hl, _, _⟩ := ab_split' (h.ab.trans hs)
  have := (h.mem hB hl).1
  exact get_any h.jr.jp hrd r lv 0 (.inr ⟨⟨a, b, hl⟩, rfl⟩) (by omega)
theorem JA.rok (h : JA c rb s C X) : ∀ x ∈ s.l, x.2.ok := fun x hx => by
  obtain ⟨I, l, rl, av, tn, h⟩ := h
  rw [← h.ab] at hx
  obtain ⟨y, hy, rfl⟩ := List.mem_map.1 hx
  exact h.jr.jp.px.ok y hy
def PBx (c : Cx) (rb : Nat) (s s' : Am) (C : Nat → Prop) (v : Value) (f : Nat) (args : Array Value) (X : World) (e : Ending) (Y : World) : Prop :=
  e = .returned v ∧ (∀ k, C k → Y.heap[k]? = X.heap[k]?) ∧ Below c.w.heap.size c.w Y ∧ ∀ Y', Below Y.heap.size Y Y' → Calls Tryz.prog f args Y' fun e Z => e = .returned v ∧ JA c rb s' C Z ∧ ∀ k, C k → Z.heap[k]? = Y'.heap[k]?
theorem PBx.go {f : Nat} {args : Array Value} {e : Ending} (h : JB c rb s C I X l rl av tn) (s' : Am) (pd : PD c tn L' s.L I X Y l l' last' (fun _ => False)) (e1 : XC.ab l' = s'.l) (e2 : L' = s'.L) (e3 : last' = s'.last) (v : Value) (he : e = .returned v)
    (hr : ∀ {C' : Nat → Prop} Y' J, JH c rb s' C' J Y' l' rl s.last s.L av tn → Calls Tryz.prog f args Y' fun e Z => e = .returned v ∧ ∃ rl' av', RE c rb s'.L s'.L J Y' Z rl rl' s'.last av av' ∧ XC.ab rl' = s'.l) : PBx c rb s s' C v f args X e Y := by
  refine ⟨he, (h.half pd (Below.refl _ _) e1 e2 e3).2, by obtain ⟨⟨J, hJ⟩, _⟩ := h.half pd (Below.refl _ _) e1 e2 e3; exact hJ.jp.mm.bel, fun Y' hb => ?_⟩
  obtain ⟨⟨J, hJ⟩, _⟩ := h.half pd hb e1 e2 e3
  refine (hr Y' J hJ).mono fun e Z ⟨h1, rl', av', h2, h3⟩ => ⟨h1, ?_⟩
  obtain ⟨q1, q2⟩ := hJ.fin h2 h3
  exact ⟨q1.sub (fun k hk => .inl hk), fun k hk => q2 k (.inl hk)⟩
theorem JA.nxt_no (h : JA c rb s C X) (hB : Bd N s) (hN : N ≤ 1000) (hrd : iOk rd) (hno : ∀ x ∈ s.l, x.1 ≠ rd) :
    Calls Tryz.prog 24 #[.pointer (some ⟨c.xb, 0, none⟩), .int .i64 rd] X fun e Y => PBx c rb s s C (.tuple #[.int .u64 0, .int .i64 6]) 33 #[.pointer (some ⟨rb, 0, none⟩), .int .i64 rd] X e Y := by
  obtain ⟨I, l, rl, av, tn, h⟩ := h
  have hab := h.jr.ab
  obtain ⟨hln, hrn⟩ := h.rln hB
  have hn := (ab_no' h.ab).1 hno
  exact (XC.nxt_no h.jr.jp hrd hn).mono fun e Y ⟨he, hb⟩ => PBx.go h s (PD.refl h.jr.jp hb) h.ab rfl rfl _ he (fun Y' J hH => (rnxt_no hH.rx (by omega) (ab_no hab hn)).mono fun e Z ⟨h1, h2⟩ => ⟨h1, rl, av, by subst h2; exact RE.refl hH.jp.mm hH.rx (Below.refl _ _), hab.trans h.ab⟩)
theorem JA.nxt_is (h : JA c rb s C X) (hB : Bd N s) (hN : N ≤ 1000) (hrd : iOk rd) (hs : s.l = sa ++ (rd, r) :: sb) (hna : ∀ x ∈ sa, x.1 ≠ rd) :
    Calls Tryz.prog 24 #[.pointer (some ⟨c.xb, 0, none⟩), .int .i64 rd] X fun e Y => PBx c rb s ⟨sa ++ (rd, { r with ctr := r.ctr + 1 }) :: sb, s.last, s.L⟩ C (.tuple #[.int .u64 ((r.ctr + 1 : Nat) : Int), .int .i64 0]) 33 #[.pointer (some ⟨rb, 0, none⟩), .int .i64 rd] X e Y := by
  obtain ⟨I, l, rl, av, tn, h⟩ := h
  have hab := h.jr.ab
  obtain ⟨hln, hrn⟩ := h.rln hB
  obtain ⟨a, lv, b, hl, ha1, hb1⟩ := ab_split' (h.ab.trans hs)
  obtain ⟨hq1, hq2, hq3, hq4⟩ := h.mem hB hl
  obtain ⟨a', lv2, b', hrl, ea, eb⟩ := ab_split (hl ▸ hab)
  have hna0 : NoRd a rd := (ab_no' ha1).1 hna
  have hna' := ab_no ea hna0
  have hlen2 : (a' ++ (rd, r, lv2) :: b').length < 1000000 := by rw [← hrl]; omega
  exact (nxt_ok h.jr.jp hrd hl (by omega)).mono fun e Y ⟨lv', he, pd⟩ => PBx.go h ⟨sa ++ (rd, { r with ctr := r.ctr + 1 }) :: sb, s.last, s.L⟩ pd (by rw [ab_mid, ha1, hb1]) rfl rfl _ he (fun Y' J hH => by
    have hx := hH.rx
    rw [hrl] at hx ⊢
    exact (rnxt_ok hx hlen2 hna' (by omega)).mono fun e Z ⟨h1, h2⟩ => ⟨h1, _, av, RE.of_rv hH.jp.mm hx h2.rv lg_upd, by rw [ab_mid, ea, eb, ha1, hb1]⟩)
structure CI (s : Am) (f : Nat → Nat) : Prop where
  lt : ∀ x ∈ s.l, x.2.inst ≤ s.last
  nd : (s.l.map (fun x => x.2.inst)).Nodup
  ct : ∀ x ∈ s.l, f x.2.inst = x.2.ctr
  z : ∀ j, s.last < j → f j = 0
theorem up_inst {k : Int} (h : UP c k r r' L L') : r'.inst = r.inst ∧ (k ≠ 7 → r'.ctr = r.ctr) := by
  cases h using UP.elim with
  | st => exact ⟨rfl, fun _ => rfl⟩
  | recs => exact ⟨rfl, fun _ => rfl⟩
  | ctr hk => exact ⟨rfl, fun h => absurd (by assumption) h⟩
  | tree => exact ⟨rfl, fun _ => rfl⟩
  | grow => exact ⟨rfl, fun _ => rfl⟩
theorem CI.step {f : Nat → Nat} (h : CI s f) (ht : AT c k s s') (hk : k ≠ 7) : CI s' f := by
  have h1 := h.lt
  have h2 := h.nd
  have h3 := h.ct
  have h4 := h.z
  cases ht using AT.elim with
  | same => exact h
  | upd a b rd r r' L L' last hu =>
    obtain ⟨e1, e2⟩ := up_inst hu
    have e2 := e2 hk
    have hm : (rd, r) ∈ a ++ (rd, r) :: b := by simp
    have hin : ∀ x ∈ a ++ (rd, r') :: b, x = (rd, r') ∨ x ∈ a ++ (rd, r) :: b := fun x hx => by
      rcases List.mem_append.1 hx with hx | hx
      · exact .inr (by simp [hx])
      · rcases List.mem_cons.1 hx with hx | hx
        · exact .inl hx
        · exact .inr (by simp [hx])
    refine ⟨fun x hx => ?_, ?_, fun x hx => ?_, h4⟩
    · rcases hin x hx with rfl | hx
      · show r'.inst ≤ last; rw [e1]; exact h1 _ hm
      · exact h1 x hx
    · have e : (a ++ (rd, r') :: b).map (fun x => x.2.inst) = (a ++ (rd, r) :: b).map (fun x => x.2.inst) := by simp [e1]
      show ((a ++ (rd, r') :: b).map (fun x => x.2.inst)).Nodup
      rw [e]; exact h2
    · rcases hin x hx with rfl | hx
      · show f r'.inst = r'.ctr; rw [e1, e2]; exact h3 _ hm
      · exact h3 x hx
  | del a b rd r L last =>
    have hsub : ∀ x ∈ a ++ b, x ∈ a ++ (rd, r) :: b := fun x hx => by rcases List.mem_append.1 hx with hx | hx <;> simp [hx]
    refine ⟨fun x hx => h1 x (hsub x hx), ?_, fun x hx => h3 x (hsub x hx), h4⟩
    have : ((a ++ (rd, r) :: b).map (fun x => x.2.inst)).Nodup := h2
    rw [List.map_append, List.map_cons] at this
    show ((a ++ b).map (fun x => x.2.inst)).Nodup
    rw [List.map_append]
    exact this.sublist (List.Sublist.append_left (List.sublist_cons_self _ _) _)
  | new l last L rd root V nodes tree hV =>
    refine ⟨fun x hx => ?_, ?_, fun x hx => ?_, fun j hj => h4 j (by have : last + 1 < j := hj; show last < j; omega)⟩
    · rcases List.mem_append.1 hx with hx | hx
      · exact Nat.le_succ_of_le (h1 x hx)
      · rw [List.mem_singleton.1 hx]; exact Nat.le_refl _
    · show ((l ++ [(rd, newR c L (last + 1) root V nodes tree)]).map (fun x => x.2.inst)).Nodup
      rw [List.map_append, List.nodup_append]
      refine ⟨h2, by simp, fun x hx y hy e => ?_⟩
      obtain ⟨z, hz, rfl⟩ := List.mem_map.1 hx
      have hy' : y = last + 1 := by simpa [newR] using hy
      have := h1 z hz
      have : z.2.inst ≤ last := this
      omega
    · rcases List.mem_append.1 hx with hx | hx
      · exact h3 x hx
      · rw [List.mem_singleton.1 hx]; exact h4 (last + 1) (Nat.lt_succ_self _)
theorem CI.next {f : Nat → Nat} (h : CI s f) (hs : s.l = sa ++ (rd, r) :: sb) : CI ⟨sa ++ (rd, { r with ctr := r.ctr + 1 }) :: sb, s.last, s.L⟩ (fun k => if k = r.inst then r.ctr + 1 else f k) ∧ f r.inst = r.ctr ∧ r.inst ≤ s.last := by
  have h1 := h.lt
  have h2 := h.nd
  have h3 := h.ct
  rw [hs] at h1 h2 h3
  have hm : (rd, r) ∈ sa ++ (rd, r) :: sb := by simp
  have hlt : r.inst ≤ s.last := h1 _ hm
  rw [List.map_append, List.map_cons, List.nodup_append] at h2
  obtain ⟨n1, n2, n3⟩ := h2
  rw [List.nodup_cons] at n2
  refine ⟨⟨fun x hx => ?_, ?_, fun x hx => ?_, fun j hj => ?_⟩, h3 _ hm, hlt⟩
  · rcases List.mem_append.1 hx with hx | hx
    · exact h1 x (by simp [hx])
    · rcases List.mem_cons.1 hx with rfl | hx
      · exact hlt
      · exact h1 x (by simp [hx])
  · show ((sa ++ (rd, { r with ctr := r.ctr + 1 }) :: sb).map (fun x => x.2.inst)).Nodup
    rw [List.map_append, List.map_cons, List.nodup_append]
    exact ⟨n1, List.nodup_cons.2 n2, n3⟩
  · rcases List.mem_append.1 hx with hx | hx
    · have hne : x.2.inst ≠ r.inst := n3 x.2.inst (List.mem_map.2 ⟨x, hx, rfl⟩) r.inst (by simp)
      simp only [if_neg hne]; exact h3 x (by simp [hx])
    · rcases List.mem_cons.1 hx with rfl | hx
      · simp
      · have hne : x.2.inst ≠ r.inst := fun e => n2.1 (by rw [← e]; exact List.mem_map.2 ⟨x, hx, rfl⟩)
        simp only [if_neg hne]; exact h3 x (by simp [hx])
  · have hj' : s.last < j := hj
    have hne : j ≠ r.inst := by omega
    simp only [if_neg hne]; exact h.z j hj'
end
end Go.Proofs.YtekbppfocnbhbaaGreat.XC

namespace Go.Proofs.YtekbppfocnbhbaaGreat.XC
open Go.RowKit
open Go.ChangeMaps (setBlock heap_setBlock_same heap_setBlock_other)

section
variable {c : Cx} {rb tn last last' : Nat} {L R R' L' : Lg} {C C2 D I J : Nat → Prop} {X Y Y' Z W w : World} {rl rl' l l' : List En} {av av' : Value} {a : Ac} {s s' : Am} {k : Int} {N pb mb q g o : Nat} {rd : Int} {ks ks' : List Nat} {f f' : Nat → Nat}
theorem JA.low (h : JA c rb s C X) : c.n ≤ X.heap.size := by
  obtain ⟨I, l, rl, av, tn, h⟩ := h
  exact h.jr.jp.mm.low.2
structure RB (w : World) (c : Cx) (rb : Nat) (s : Am) (C : Nat → Prop) (pb mb : Nat) (ks : List Nat) (f : Nat → Nat) (X : World) : Prop where
  ja : JA c rb s C X
  cw : c.w = w
  cp : C pb
  cm : C mb
  ne : pb ≠ mb
  cn : ∀ k, C k → c.n ≤ k
  pr : X.heap[pb]? = some (.cells (prL c rb).toArray 29 (0, 0))
  mu : MU X mb ks f
theorem RB.bel (h : RB w c rb s C pb mb ks f X) : Below w.heap.size w X := by
  have := h.ja.bel
  rwa [h.cw] at this
theorem RB.step (h : RB w c rb s C pb mb ks f X) (hb : Below X.heap.size X Y) : RB w c rb s C pb mb ks f Y :=
  ⟨h.ja.below hb, h.cw, h.cp, h.cm, h.ne, h.cn, (hb.block pb (h.ja.lt h.cp)).trans h.pr, h.mu.keep (hb.block mb (h.ja.lt h.cm))⟩
theorem RB.call (h : RB w c rb s C pb mb ks f X) (ja : JA c rb s' C Y) (hk : ∀ k, C k → Y.heap[k]? = X.heap[k]?) : RB w c rb s' C pb mb ks f Y :=
  ⟨ja, h.cw, h.cp, h.cm, h.ne, h.cn, (hk pb h.cp).trans h.pr, h.mu.keep (hk mb h.cm)⟩
theorem RB.sub (h : RB w c rb s C pb mb ks f X) (hD : ∀ k, D k → C k) (dp : D pb) (dm : D mb) : RB w c rb s D pb mb ks f X :=
  ⟨h.ja.sub hD, h.cw, dp, dm, h.ne, fun k hk => h.cn k (hD k hk), h.pr, h.mu⟩
theorem RB.new (h : RB w c rb s C pb mb ks f X) (hb : Below X.heap.size X Y) (hq : X.heap.size ≤ q ∧ q < Y.heap.size) : RB w c rb s (fun k => C k ∨ k = q) pb mb ks f Y := by
  have h1 := h.step hb
  refine ⟨(h.ja.new hb).sub (fun k hk => hk.elim .inl (fun e => .inr (e ▸ hq))), h.cw, .inl h.cp, .inl h.cm, h.ne, fun k hk => ?_, h1.pr, h1.mu⟩
  rcases hk with hk | rfl
  · exact h.cn k hk
  · have := h.ja.low; omega
theorem RB.put (h : RB w c rb s C pb mb ks f X) (hg : X.grownBy Y (some mb)) (hm : MU Y mb ks' f') : RB w c rb s C pb mb ks' f' Y ∧ ∀ k, k < X.heap.size → k ≠ mb → Y.heap[k]? = X.heap[k]? := by
  obtain ⟨g1, g2, g3, g4, g5⟩ := hg
  have hbl : ∀ k, k < X.heap.size → k ≠ mb → Y.heap[k]? = X.heap[k]? := fun k hk hn => g5 k hk (fun e => hn (Option.some.inj e))
  refine ⟨⟨h.ja.write h.cn ⟨g1, g2, g3, g4, fun k hk hn => hbl k hk (fun e => hn (e ▸ h.cm))⟩, h.cw, h.cp, h.cm, h.ne, h.cn, (hbl pb (h.ja.lt h.cp) h.ne).trans h.pr, hm⟩, hbl⟩
structure SQ (c : Cx) (rb pb g o : Nat) (rd : Int) (W : World) : Prop where
  c1 : W.cell? ⟨pb, 1, none⟩ = some (.pointer (some ⟨c.xb, 0, none⟩))
  c2 : W.cell? ⟨pb, 2, none⟩ = some (.pointer (some ⟨rb, 0, none⟩))
  k1 : W.cell? ⟨g, o + 1, none⟩ = some (.int .i64 rd)
theorem sq_mk (hp : W.heap[pb]? = some (.cells (prL c rb).toArray 29 (0, 0))) (hb : Below w.heap.size w W) (hr : w.rangeAt g o (acL a)) : SQ c rb pb g o a.rd W :=
  ⟨by rw [cell_of_row _ _ _ _ _ _ hp]; rfl, by rw [cell_of_row _ _ _ _ _ _ hp]; rfl, R5.rangeAt_below hr hb 1 _ rfl⟩
theorem RB.sq (h : RB w c rb s C pb mb ks f X) (hr : w.rangeAt g o (acL a)) : SQ c rb pb g o a.rd X := sq_mk h.pr h.bel hr
structure SA (c : Cx) (rb pb g o : Nat) (AL : List Value) (W : World) : Prop where
  pr : W.heap[pb]? = some (.cells (prL c rb).toArray 29 (0, 0))
  ra : W.rangeAt g o AL
theorem RB.sa (h : RB w c rb s C pb mb ks f X) (hr : w.rangeAt g o (acL a)) : SA c rb pb g o (acL a) X := ⟨h.pr, R5.rangeAt_below hr h.bel⟩
theorem nx_both (h : JA c rb s C X) (hB : Bd N s) (hN : N ≤ 1000) (hrd : iOk rd) :
    ∃ (r : Rm) (E : Int) (nv : Nat) (s' : Am), r.ok ∧ (E = 6 ∧ s' = s ∨ E = 0 ∧ nv = r.ctr + 1 ∧ ∃ sa sb, s.l = sa ++ (rd, r) :: sb ∧ s' = ⟨sa ++ (rd, { r with ctr := r.ctr + 1 }) :: sb, s.last, s.L⟩) ∧
      (∀ (C : Nat → Prop) (X : World), JA c rb s C X → Calls Tryz.prog 12 #[.pointer (some ⟨c.xb, 0, none⟩), .int .i64 rd] X fun e Y => GEnd X r E e Y) ∧
      (∀ (C : Nat → Prop) (X : World), JA c rb s C X → Calls Tryz.prog 24 #[.pointer (some ⟨c.xb, 0, none⟩), .int .i64 rd] X fun e Y => PBx c rb s s' C (.tuple #[.int .u64 ((nv : Nat) : Int), .int .i64 E]) 33 #[.pointer (some ⟨rb, 0, none⟩), .int .i64 rd] X e Y) := by
  rcases am_split s.l rd with hno | ⟨sa, r, sb, hs, hna⟩
  · exact ⟨zR, 6, 0, s, zR_ok, .inl ⟨rfl, rfl⟩, fun C X h => h.get_no hrd hno, fun C X h => h.nxt_no hB hN hrd hno⟩
  · exact ⟨r, 0, r.ctr + 1, _, h.rok (rd, r) (by rw [hs]; simp), .inr ⟨rfl, rfl, sa, sb, hs, rfl⟩, fun C X h => h.get_is hB hN hrd hs, fun C X h => h.nxt_is hB hN hrd hs hna⟩
theorem rb_start {w X : World} {c : Cx} {rb tn : Nat} {I : Nat → Prop} (hcw : c.w = w) (hJR : JR c rb tn [] I X [] [] 0 (.slice none 0 0)) {Y : World} {PA : Array Value} (hPA : PA = (prL c rb).toArray) (hY : Y = (X.alloc (.cells PA 29 (0, 0))).alloc (.map #[] 0)) :
    RB w c rb ⟨[], 0, []⟩ (fun k => k = X.heap.size ∨ k = X.heap.size + 1) X.heap.size (X.heap.size + 1) [] (fun _ => 0) Y := by
  have hb : Below X.heap.size X Y := by rw [hY]; exact ((Below.refl _ _).alloc (Nat.le_refl _) _).alloc (by simp) _
  have hs : Y.heap.size = X.heap.size + 1 + 1 := by rw [hY]; simp
  have h0 : JA c rb ⟨[], 0, []⟩ (fun _ => False) X := ⟨I, [], [], _, tn, hJR, rfl, fun k hk => hk.elim⟩
  refine ⟨(h0.new hb).sub (fun k hk => .inr ?_), hcw, .inl rfl, .inr rfl, by omega, fun k hk => ?_, ?_, mu_empty _ _ ?_⟩
  · rcases hk with rfl | rfl <;> omega
  · have := h0.low; rcases hk with rfl | rfl <;> omega
  · rw [hY, ← hPA]; exact (heap_alloc_old _ _ (by simp)).trans (heap_alloc_new _ _)
  · rw [hY]; exact R5.heap_at _ _ _ (by simp)
theorem ci_start : CI ⟨[], 0, []⟩ (fun _ => 0) := ⟨fun x hx => (List.not_mem_nil hx).elim, by simp, fun x hx => (List.not_mem_nil hx).elim, fun _ _ => rfl⟩
theorem bd_start : Bd 0 ⟨[], 0, []⟩ := ⟨Nat.le_refl _, Nat.le_refl _, Nat.le_refl _, fun x hx => (List.not_mem_nil hx).elim⟩
end
end Go.Proofs.YtekbppfocnbhbaaGreat.XC
