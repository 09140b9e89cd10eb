/- realm: Create by both, where the caller writes between the halves; what holds along the walk of measures. -/
import Derived.Test.YtekbppfocnbhbaaGreatRl
import Derived.Test.YtekbppfocnbhbaaGreatPM
import Derived.Test.YtekbppfocnbhbaaGreatXW
import Derived.Deep.CutRange
import Derived.Deep.AppendLies
import Derived.Stop.BytesEq
set_option linter.unusedVariables false
set_option linter.unusedSimpArgs false
namespace Go.Proofs.YtekbppfocnbhbaaGreat.XC
open Go.ChangeShapes Go.WideShapes Go.ChangeAt Go.RowKit

def HAc (w : World) (v : Value) (ls : List Ac) : Prop :=
  ∃ p cap, v = .slice p ls.length cap ∧ ∀ i a, ls[i]? = some a → a.ok ∧ ∃ g o, p = some ⟨g, o, none⟩ ∧ w.rangeAt g (o + i * 207) (acL a)
section
variable {H : Type} {enc : TypeId × Value → H} {w : World} {base : Nat} {held : Bool}
theorem open_acc {cs : List Value} {fuel : Nat} {x : DataW H × List MemPlace} (h : DataW.trod enc Tryz.prog w base (fun _ => true) held fuel 43 cs = some x) :
    ∃ a, cs = acL a ∧ a.ok := by
  cases fuel with
  | zero => simp [DataW.trod] at h
  | succ m =>
    rw [DataW.trod_step] at h
    unfold DataW.trodStep at h
    simp only [Tryz.underlying43] at h
    have hcell : Tryz.prog.cellsOf 43 = 207 := by kernel_rfl
    have c0 : Tryz.prog.cellsOf 3 = 1 := by kernel_rfl
    have c1 : Tryz.prog.cellsOf 36 = 33 := by kernel_rfl
    have c2 : Tryz.prog.cellsOf 33 = 32 := by kernel_rfl
    have c3 : Tryz.prog.cellsOf 38 = 128 := by kernel_rfl
    have c4 : Tryz.prog.cellsOf 41 = 10 := by kernel_rfl
    by_cases hl : cs.length = Tryz.prog.cellsOf 43
    · rw [if_pos hl] at h
      rw [hcell] at hl
      simp only [Option.map_eq_some_iff, List.mapM_cons, List.mapM_nil, bind, Option.bind_eq_some_iff, pure, Option.some.injEq, c0, c1, c2, c3, c4] at h
      obtain ⟨ys, ⟨y0, h0, z0, ⟨y1, h1, z1, ⟨y2, h2, z2, ⟨y3, h3, z3, ⟨y4, h4, z4, ⟨y5, h5, z5, ⟨y6, h6, z6, ⟨y7, h7, _⟩, _⟩, _⟩, _⟩, _⟩, _⟩, _⟩, _⟩, _⟩ := h
      obtain ⟨k0, f0, _, w0⟩ := DataW.trod_int Tryz.underlying3 h0
      obtain ⟨k1, f1, _, w1⟩ := DataW.trod_int Tryz.underlying3 h1
      obtain ⟨k2, f2, _, w2⟩ := DataW.trod_int Tryz.underlying3 h2
      obtain ⟨k3, f3, _, w3⟩ := DataW.trod_int Tryz.underlying3 h3
      obtain ⟨V, n, f4, g4, g4n⟩ := PC.open_rp h4
      obtain ⟨l5, p5⟩ := PC.open_arr Tryz.underlying33 Tryz.underlying5 c2 (by kernel_rfl) h5
      obtain ⟨tr, f5⟩ := PC.cells_u8 _ p5
      obtain ⟨l6, p6⟩ := PC.open_arr Tryz.underlying38 Tryz.underlying5 c3 (by kernel_rfl) h6
      obtain ⟨gr, f6⟩ := PC.cells_u8 _ p6
      obtain ⟨pc, rs, rn, f7, g7, g8, g9⟩ := PC.open_rc h7
      have hs : cs = cs.take 1 ++ ((cs.drop 1).take 1 ++ ((cs.drop 2).take 1 ++ ((cs.drop 3).take 1 ++ ((cs.drop 4).take 33 ++ ((cs.drop 37).take 32 ++ ((cs.drop 69).take 128 ++ (cs.drop 197).take 10)))))) := by
        have e7 : (cs.drop 197).take 10 = cs.drop 197 := List.take_of_length_le (by simp [hl])
        have st : ∀ k n, cs.drop k = (cs.drop k).take n ++ cs.drop (k + n) := fun k n => by rw [← List.drop_drop, List.take_append_drop]
        rw [e7, ← st 69 128, ← st 37 32, ← st 4 33, ← st 3 1, ← st 2 1, ← st 1 1]
        exact (List.take_append_drop 1 cs).symm
      simp only [List.drop_zero] at f0
      refine ⟨⟨k0, k1, k2, k3, V, n, tr, gr, pc, rs, rn⟩, ?_, ⟨w1, g4, by rw [f5] at l5; simpa using l5, by rw [f6] at l6; simpa using l6, g7, g8, g9⟩⟩
      rw [hs, f0, f1, f2, f3, f4, f5, f6, f7]
      unfold acL
      simp
    · rw [if_neg hl] at h; cases h
theorem choose_nat {α : Type} {n : Nat} {p : Nat → α → Prop} (h : ∀ i, i < n → ∃ x, p i x) : ∃ l : List α, l.length = n ∧ ∀ i x, l[i]? = some x → p i x := by
  induction n with
  | zero => exact ⟨[], rfl, fun i x hx => by simp at hx⟩
  | succ n ih =>
    obtain ⟨l, h1, h2⟩ := ih (fun i hi => h i (by omega))
    obtain ⟨x, hx⟩ := h n (by omega)
    refine ⟨l ++ [x], by simp [h1], fun i y hy => ?_⟩
    rcases Nat.lt_or_ge i l.length with hi | hi
    · rw [List.getElem?_append_left hi] at hy; exact h2 i y hy
    · rw [List.getElem?_append_right hi] at hy
      have hi0 : i - l.length = 0 := by have := (List.getElem?_eq_some_iff.1 hy).1; simp at this; omega
      rw [hi0] at hy
      have e : x = y := by simpa using hy
      have e2 : i = n := by omega
      rw [← e, e2]; exact hx
theorem cells_range {W : World} {base : Nat} {g o : Nat} {n : Nat} {cs : List Value} (h : W.cells? base ⟨g, o, none⟩ n = some cs) : W.rangeAt g o cs := fun j v hv => by
  obtain ⟨_, h2, h3⟩ := World.cells?_some h
  have hj : j < n := by rw [← h2]; exact (List.getElem?_eq_some_iff.1 hv).1
  have := h3 j hj
  rw [PC.add_none] at this
  rw [this, hv]
theorem spot_none {W : World} {base : Nat} {g o : Nat} {sp : Option Nat} {k n : Nat} {cs : List Value} (hn : 0 < n) (h : W.cells? base ((⟨g, o, sp⟩ : Addr).add (0 * k)) n = some cs) : sp = none := by
  obtain ⟨_, h2, h3⟩ := World.cells?_some h
  have h0 := h3 0 hn
  have hl : 0 < cs.length := by omega
  rw [List.getElem?_eq_getElem hl] at h0
  have hs := World.cell?_spot h0
  cases sp with
  | none => rfl
  | some t =>
    exfalso
    simp [Addr.add] at hs
theorem open_acts {v : Value} {fuel : Nat} {x : DataW H × List MemPlace} (h : DataW.trod enc Tryz.prog w base (fun _ => true) held fuel 23 [v] = some x) : ∃ ls, HAc w v ls ∧ ls.length ≤ 9223372036854775807 := by
  have hcell : Tryz.prog.cellsOf 43 = 207 := by kernel_rfl
  rcases Go.Deep.open_slice Tryz.underlying23 h with ⟨hcs, _⟩ | ⟨a, len, cap, m, n, D, Pl, hcs, hb, hl, hm, hmm, _, hr⟩
  · simp only [List.cons.injEq, and_true] at hcs
    subst hcs
    exact ⟨[], ⟨none, 0, rfl, fun i a ha => by simp at ha⟩, by decide⟩
  · simp only [List.cons.injEq, and_true] at hcs
    subst hcs
    simp only [if_true] at hmm
    rw [hcell] at hr
    obtain ⟨g, o, sp⟩ := a
    have hsp : 0 < len → sp = none := fun h0 => by
      obtain ⟨cs', h1, _⟩ := hr 0 (by omega)
      exact spot_none (by omega) h1
    obtain ⟨ls, h1, h2⟩ := choose_nat (n := len) (p := fun i (a : Ac) => a.ok ∧ w.rangeAt g (o + i * 207) (acL a)) (fun i hi => by
      obtain ⟨cs', h1, h2⟩ := hr i (by omega)
      obtain ⟨a, e1, rest⟩ := open_acc h2
      have hs := hsp (by omega)
      subst hs
      rw [PC.add_none] at h1
      exact ⟨a, rest, by rw [← e1]; exact cells_range h1⟩)
    refine ⟨ls, ⟨some ⟨g, o, sp⟩, cap, by rw [h1], fun i a ha => ?_⟩, by unfold maxLen at hm; omega⟩
    have hi : i < len := by rw [← h1]; exact (List.getElem?_eq_some_iff.1 ha).1
    obtain ⟨h3, h4⟩ := h2 i a ha
    exact ⟨h3, g, o, by rw [hsp (by omega)], h4⟩
end
end Go.Proofs.YtekbppfocnbhbaaGreat.XC

namespace Go.Proofs.YtekbppfocnbhbaaGreat.XC
open Go.RowKit
open Go.ChangeMaps (setBlock heap_setBlock_same heap_setBlock_other)

theorem lawQ : Maps.Keyed Tryz.prog 34 := Maps.int_keyed Tryz.underlying34
end Go.Proofs.YtekbppfocnbhbaaGreat.XC

namespace Go.Proofs.YtekbppfocnbhbaaGreat.XC
open Go.RowKit

theorem ab_split' : ∀ {l : List En} {sa sb : List (Int × Rm)} {rd : Int} {r : Rm}, ab l = sa ++ (rd, r) :: sb → ∃ a lv b, l = a ++ (rd, r, lv) :: b ∧ ab a = sa ∧ ab b = sb
  | [], sa, sb, rd, r, h => by exact absurd h (by simp [ab])
  | x :: l, [], sb, rd, r, h => by
    have h' : (x.1, x.2.1) :: ab l = (rd, r) :: sb := h
    injection h' with h1 h2
    obtain ⟨x1, x2, x3⟩ := x
    simp only [Prod.mk.injEq] at h1
    obtain ⟨rfl, rfl⟩ := h1
    exact ⟨[], x3, l, rfl, rfl, h2⟩
  | x :: l, y :: sa, sb, rd, r, h => by
    have h' : (x.1, x.2.1) :: ab l = y :: (sa ++ (rd, r) :: sb) := h
    injection h' with h1 h2
    obtain ⟨a, lv, b, e1, e2, e3⟩ := ab_split' h2
    refine ⟨x :: a, lv, b, by rw [e1]; rfl, ?_, e3⟩
    show (x.1, x.2.1) :: ab a = y :: sa
    rw [h1, e2]
theorem ab_no' {l : List En} {sl : List (Int × Rm)} {rd : Int} (h : ab l = sl) : (∀ x ∈ sl, x.1 ≠ rd) ↔ NoRd l rd := by
  subst h
  constructor
  · intro h x hx e
    exact h (x.1, x.2.1) (List.mem_map.2 ⟨x, hx, rfl⟩) e
  · intro h x hx e
    obtain ⟨y, hy, rfl⟩ := List.mem_map.1 hx
    exact h y hy e
theorem am_split (sl : List (Int × Rm)) (rd : Int) : (∀ x ∈ sl, x.1 ≠ rd) ∨ ∃ sa r sb, sl = sa ++ (rd, r) :: sb ∧ ∀ x ∈ sa, x.1 ≠ rd := by
  induction sl with
  | nil => exact .inl (fun x hx => by cases hx)
  | cons x l ih =>
    by_cases hx : x.1 = rd
    · obtain ⟨x1, x2⟩ := x
      have hx' : x1 = rd := hx
      subst hx'
      exact .inr ⟨[], x2, l, rfl, fun x hx => by cases hx⟩
    · rcases ih with h | ⟨a, r, b, rfl, hn⟩
      · exact .inl (fun y hy => by
          rcases List.mem_cons.1 hy with rfl | hy
          · exact hx
          · exact h y hy)
      · exact .inr ⟨x :: a, r, b, rfl, fun y hy => by
          rcases List.mem_cons.1 hy with rfl | hy
          · exact hx
          · exact hn y hy⟩
section
variable {c : Cx} {rb tn last last' : Nat} {L R R' L' : Lg} {C C2 I J : Nat → Prop} {X Y Y' Z W : World} {rl rl' l l' : List En} {av av' : Value} {a : Ac} {s s' : Am} {k : Int} {N : Nat} {rd : Int} {r r' : Rm} {sa sb : List (Int × Rm)}
theorem JA.get_no (h : JA c rb s C X) (hrd : iOk rd) (hno : ∀ x ∈ s.l, x.1 ≠ rd) :
    Calls Tryz.prog 12 #[.pointer (some ⟨c.xb, 0, none⟩), .int .i64 rd] X fun e Y => GEnd X zR 6 e Y := by
  obtain ⟨I, l, rl, av, tn, h⟩ := h
  exact get_any h.jr.jp hrd zR (.slice none 0 0) 6 (.inl ⟨(ab_no' h.ab).1 hno, rfl, rfl, rfl⟩) (by decide)
theorem JA.get_is (h : JA c rb s C X) (hB : Bd N s) (hN : N ≤ 1000) (hrd : iOk rd) (hs : s.l = sa ++ (rd, r) :: sb) :
    Calls Tryz.prog 12 #[.pointer (some ⟨c.xb, 0, none⟩), .int .i64 rd] X fun e Y => GEnd X r 0 e Y := by
  obtain ⟨I, l, rl, av, tn, h⟩ := h
  obtain ⟨a, lv, b, hl, _, _⟩ := ab_split' (h.ab.trans hs)
  have := (h.mem hB hl).1
  exact get_any h.jr.jp hrd r lv 0 (.inr ⟨⟨a, b, hl⟩, rfl⟩) (by omega)
theorem JA.rok (h : JA c rb s C X) : ∀ x ∈ s.l, x.2.ok := fun x hx => by
  obtain ⟨I, l, rl, av, tn, h⟩ := h
  rw [← h.ab] at hx
  obtain ⟨y, hy, rfl⟩ := List.mem_map.1 hx
  exact h.jr.jp.px.ok y hy
theorem up_inst {k : Int} (h : UP c k r r' L L') : r'.inst = r.inst ∧ (k ≠ 7 → r'.ctr = r.ctr) := by
  cases h using UP.elim with
  | st => exact ⟨rfl, fun _ => rfl⟩
  | recs => exact ⟨rfl, fun _ => rfl⟩
  | ctr hk => exact ⟨rfl, fun h => absurd (by assumption) h⟩
  | tree => exact ⟨rfl, fun _ => rfl⟩
  | grow => exact ⟨rfl, fun _ => rfl⟩
end
end Go.Proofs.YtekbppfocnbhbaaGreat.XC

namespace Go.Proofs.YtekbppfocnbhbaaGreat.XC
open Go.RowKit
open Go.ChangeMaps (setBlock heap_setBlock_same heap_setBlock_other)

section
variable {c : Cx} {rb tn last last' : Nat} {L R R' L' : Lg} {C C2 D I J : Nat → Prop} {X Y Y' Z W w : World} {rl rl' l l' : List En} {av av' : Value} {a : Ac} {s s' : Am} {k : Int} {N pb mb q g o : Nat} {rd : Int} {ks ks' : List Nat} {f f' : Nat → Nat}
theorem JA.low (h : JA c rb s C X) : c.n ≤ X.heap.size := by
  obtain ⟨I, l, rl, av, tn, h⟩ := h
  exact h.jr.jp.mm.low.2
structure SQ (c : Cx) (rb pb g o : Nat) (rd : Int) (W : World) : Prop where
  c1 : W.cell? ⟨pb, 1, none⟩ = some (.pointer (some ⟨c.xb, 0, none⟩))
  c2 : W.cell? ⟨pb, 2, none⟩ = some (.pointer (some ⟨rb, 0, none⟩))
  k1 : W.cell? ⟨g, o + 1, none⟩ = some (.int .i64 rd)
theorem sq_mk (hp : W.heap[pb]? = some (.cells (prL c rb).toArray 29 (0, 0))) (hb : Below w.heap.size w W) (hr : w.rangeAt g o (acL a)) : SQ c rb pb g o a.rd W :=
  ⟨by rw [cell_of_row _ _ _ _ _ _ hp]; rfl, by rw [cell_of_row _ _ _ _ _ _ hp]; rfl, R5.rangeAt_below hr hb 1 _ rfl⟩
structure SA (c : Cx) (rb pb g o : Nat) (AL : List Value) (W : World) : Prop where
  pr : W.heap[pb]? = some (.cells (prL c rb).toArray 29 (0, 0))
  ra : W.rangeAt g o AL
theorem bd_start : Bd 0 ⟨[], 0, []⟩ := ⟨Nat.le_refl _, Nat.le_refl _, Nat.le_refl _, fun x hx => (List.not_mem_nil hx).elim⟩
end
end Go.Proofs.YtekbppfocnbhbaaGreat.XC

namespace Go.Proofs.YtekbppfocnbhbaaGreat.XC
open Go.RowKit

section
variable {c : Cx} {rb tn last last' : Nat} {L R R' L' : Lg} {C C2 D I J : Nat → Prop} {X Y Y' Z W w : World} {rl rl' l l' : List En} {av av' : Value} {a : Ac} {s s' : Am} {k : Int} {N pb q g o : Nat} {rd : Int} {r r' : Rm}
theorem JA.once (h : JA c rb s C X) : (s.l.map (·.1)).Nodup := by
  obtain ⟨I, l, rl, av, tn, h⟩ := h
  have e : s.l.map (·.1) = l.map (·.1) := by rw [← h.ab]; unfold ab; rw [List.map_map]; rfl
  rw [e]; exact h.jr.jp.px.map.once
theorem JA.wr (h : JA c rb s C X) (hn : ∀ k, C k → c.n ≤ k) (hF : R5.Fr C X Y) : JA c rb s (fun k => C k ∨ (X.heap.size ≤ k ∧ k < Y.heap.size)) Y := by
  obtain ⟨I, l, rl, av, tn, h⟩ := h
  have hst : ∀ k, k < X.heap.size → ¬ C k → Y.heap[k]? = X.heap[k]? := hF.block
  have hlt : ∀ k, I k → k < X.heap.size := fun k hk => h.jr.jp.mm.ilt hk
  have hF2 : R5.Fr (fun k => c.n ≤ k ∧ I k) X Y := ⟨hF.os, hF.tape, hF.output, hF.size, fun k hk hx => hst k hk (fun hc => hx ⟨hn k hc, (h.cc k hc).1⟩)⟩
  have hmm := h.jr.jp.mm.go (J := fun k => I k ∨ (X.heap.size ≤ k ∧ k < Y.heap.size)) hF2 (fun k hk => hk)
  have hpx := h.jr.jp.px.keep (Y := Y) (J := fun k => I k ∨ (X.heap.size ≤ k ∧ k < Y.heap.size)) (fun _ h => .inl h) (fun k hk hl => hst k hl (fun hc => (h.cc k hc).2.1 hk))
  have hrx := h.jr.rx.keep (Y := Y) (J := fun k => I k ∨ (X.heap.size ≤ k ∧ k < Y.heap.size)) (fun k hk => by
    rcases hk with rfl | hk | ⟨x, hx, hk⟩
    · exact hst _ (hlt _ h.jr.rx.fI.1) (fun hc => (h.cc _ hc).2.2.1 rfl)
    · exact hst k (hlt k (h.jr.rx.aI k hk).1) (fun hc => (h.cc k hc).2.2.2.1 hk)
    · exact hst k (hlt k (h.jr.rx.lI x hx k hk).1) (fun hc => (h.cc k hc).2.2.2.2 x hx hk)) (fun _ h => .inl h)
  refine ⟨_, l, rl, av, _, ⟨⟨hmm, hpx⟩, hrx, h.jr.ab, h.jr.d1, h.jr.d2, h.jr.d3⟩, h.ab, fun k hk => ?_⟩
  rcases hk with hk | hk
  · obtain ⟨c1, c2, c3, c4, c5⟩ := h.cc k hk
    exact ⟨.inl c1, c2, c3, c4, c5⟩
  · refine ⟨.inr hk, fun hf => ?_, fun e => ?_, fun e => ?_, fun x hx e => ?_⟩
    · have := h.jr.jp.px.top k hf; omega
    · have := hlt _ h.jr.rx.fI.1; omega
    · have := hlt _ (h.jr.rx.aI k e).1; omega
    · have := hlt _ (h.jr.rx.lI x hx k e).1; omega
theorem JH.wr {last : Nat} {R : Lg} (h : JH c rb s C J Y l rl last R av tn) (hF : R5.Fr (fun k => C k ∧ c.n ≤ k) Y Y') : ∃ tn', JH c rb s (fun k => C k ∨ (Y.heap.size ≤ k ∧ k < Y'.heap.size)) (fun k => J k ∨ (Y.heap.size ≤ k ∧ k < Y'.heap.size)) Y' l rl last R av tn' := by
  have hst : ∀ k, k < Y.heap.size → ¬ C k → Y'.heap[k]? = Y.heap[k]? := fun k hk hn => hF.block k hk (fun hc => hn hc.1)
  have hlt : ∀ k, J k → k < Y.heap.size := fun k hk => h.jp.mm.ilt hk
  have hF2 : R5.Fr (fun k => c.n ≤ k ∧ J k) Y Y' := ⟨hF.os, hF.tape, hF.output, hF.size, fun k hk hx => hF.block k hk (fun hc => hx ⟨hc.2, (h.cc k hc.1).1⟩)⟩
  have hmm := h.jp.mm.go (J := fun k => J k ∨ (Y.heap.size ≤ k ∧ k < Y'.heap.size)) hF2 (fun k hk => hk)
  have hpx := h.jp.px.keep (Y := Y') (J := fun k => J k ∨ (Y.heap.size ≤ k ∧ k < Y'.heap.size)) (fun _ h => .inl h) (fun k hk hl => hst k hl (fun hc => (h.cc k hc).2.1 hk))
  have hrx := h.rx.keep (Y := Y') (J := fun k => J k ∨ (Y.heap.size ≤ k ∧ k < Y'.heap.size)) (fun k hk => by
    rcases hk with rfl | hk | ⟨x, hx, hk⟩
    · exact hst _ (hlt _ h.rx.fI.1) (fun hc => (h.cc _ hc).2.2.1 rfl)
    · exact hst k (hlt k (h.rx.aI k hk).1) (fun hc => (h.cc k hc).2.2.2.1 hk)
    · exact hst k (hlt k (h.rx.lI x hx k hk).1) (fun hc => (h.cc k hc).2.2.2.2 x hx hk)) (fun _ h => .inl h)
  refine ⟨_, ⟨⟨hmm, hpx⟩, hrx, h.d1, h.d2, h.d3, h.ab, fun k hk => ?_⟩⟩
  rcases hk with hk | hk
  · obtain ⟨c1, c2, c3, c4, c5⟩ := h.cc k hk
    exact ⟨.inl c1, c2, c3, c4, c5⟩
  · refine ⟨.inr hk, fun hf => ?_, fun e => ?_, fun e => ?_, fun x hx e => ?_⟩
    · have := h.jp.px.top k hf; omega
    · have := hlt _ h.rx.fI.1; omega
    · have := hlt _ (h.rx.aI k e).1; omega
    · have := hlt _ (h.rx.lI x hx k e).1; omega
end
end Go.Proofs.YtekbppfocnbhbaaGreat.XC

namespace Go.Proofs.YtekbppfocnbhbaaGreat.XC
open Go.RowKit

section
variable {c : Cx} {rb tn last last' : Nat} {L R R' L' : Lg} {C C2 D I J : Nat → Prop} {X Y Y' Z W w : World} {rl rl' l l' a b : List En} {av av' : Value} {rd root : Int} {r r' : Rm} {lv : Value} {s s' : Am} {k : Int} {N pb q : Nat} {sv : Value} {ms : List Nat}
def FV (base : Nat) (w : World) (v : Value) (ls : List Nat) : Prop := w.ownsRow base 34 1 v ls.length (ls.map PC.U8)
theorem FV.nil (base : Nat) (w : World) : FV base w (.slice none 0 0) [] := World.ownsRow_nil _ _ _ _
theorem FV.keep {base : Nat} {w w' : World} {v : Value} {ls : List Nat} (h : FV base w v ls) (hk : ∀ j, v.ownBlock = some j → w'.heap[j]? = w.heap[j]?) : FV base w' v ls := R5.own_keep h (fun j e _ => hk j e)
theorem FV.lt {base : Nat} {w : World} {v : Value} {ls : List Nat} (h : FV base w v ls) {j : Nat} (e : v.ownBlock = some j) : base ≤ j ∧ j < w.heap.size := World.ownsRow.lt h j e
structure ST (w : World) (c : Cx) (rb : Nat) (s : Am) (C : Nat → Prop) (pb : Nat) (sv : Value) (ms : List Nat) (X : World) : Prop where
  ja : JA c rb s C X
  cw : c.w = w
  cp : C pb
  cn : ∀ k, C k → c.n ≤ k
  pr : X.heap[pb]? = some (.cells (prL c rb).toArray 29 (0, 0))
  fu : FV (pb + 1) X sv ms
  so : ∀ k, sv.ownBlock = some k → C k
theorem ST.bel (h : ST w c rb s C pb sv ms X) : Below w.heap.size w X := by
  have := h.ja.bel
  rwa [h.cw] at this
theorem ST.step (h : ST w c rb s C pb sv ms X) (hb : Below X.heap.size X Y) : ST w c rb s C pb sv ms Y :=
  ⟨h.ja.below hb, h.cw, h.cp, h.cn, (hb.block pb (h.ja.lt h.cp)).trans h.pr, h.fu.keep (fun j e => hb.block j (h.fu.lt e).2), h.so⟩
theorem ST.call (h : ST w c rb s C pb sv ms X) (ja : JA c rb s' C Y) (hk : ∀ k, C k → Y.heap[k]? = X.heap[k]?) : ST w c rb s' C pb sv ms Y :=
  ⟨ja, h.cw, h.cp, h.cn, (hk pb h.cp).trans h.pr, h.fu.keep (fun j e => hk j (h.so j e)), h.so⟩
theorem ST.sub (h : ST w c rb s C pb sv ms X) (hD : ∀ k, D k → C k) (dp : D pb) (ds : ∀ k, sv.ownBlock = some k → D k) : ST w c rb s D pb sv ms X :=
  ⟨h.ja.sub hD, h.cw, dp, fun k hk => h.cn k (hD k hk), h.pr, h.fu, ds⟩
theorem ST.new (h : ST w c rb s C pb sv ms X) (hb : Below X.heap.size X Y) (h2 : ∀ k, C2 k → X.heap.size ≤ k ∧ k < Y.heap.size) : ST w c rb s (fun k => C k ∨ C2 k) pb sv ms Y := by
  have h1 := h.step hb
  refine ⟨(h.ja.new hb).sub (fun k hk => hk.elim .inl (fun e => .inr (h2 k e))), h.cw, .inl h.cp, fun k hk => ?_, h1.pr, h1.fu, fun k e => .inl (h.so k e)⟩
  rcases hk with hk | hk
  · exact h.cn k hk
  · have := h.ja.low; have := (h2 k hk).1; omega
theorem ST.sq {g o : Nat} {a : Ac} (h : ST w c rb s C pb sv ms X) (hr : w.rangeAt g o (acL a)) : SQ c rb pb g o a.rd X := sq_mk h.pr h.bel hr
theorem ST.sa {g o : Nat} {a : Ac} (h : ST w c rb s C pb sv ms X) (hr : w.rangeAt g o (acL a)) : SA c rb pb g o (acL a) X := ⟨h.pr, R5.rangeAt_below hr h.bel⟩
theorem st_start {w X : World} {c : Cx} {rb tn : Nat} {I : Nat → Prop} (hcw : c.w = w) (hJR : JR c rb tn [] I X [] [] 0 (.slice none 0 0)) {Y : World} {PA : Array Value} (hPA : PA = (prL c rb).toArray) (hY : Y = X.alloc (.cells PA 29 (0, 0))) :
    ST w c rb ⟨[], 0, []⟩ (fun k => k = X.heap.size ∨ (Value.slice none 0 0).ownBlock = some k) X.heap.size (.slice none 0 0) [] Y := by
  have hb : Below X.heap.size X Y := by rw [hY]; exact (Below.refl _ _).alloc (Nat.le_refl _) _
  have hs : Y.heap.size = X.heap.size + 1 := by rw [hY]; simp
  have h0 : JA c rb ⟨[], 0, []⟩ (fun _ => False) X := ⟨I, [], [], _, tn, hJR, rfl, fun k hk => hk.elim⟩
  have hno : ∀ k, (Value.slice none 0 0).ownBlock ≠ some k := fun k e => by simp [Value.ownBlock] at e
  refine ⟨(h0.new hb).sub (fun k hk => .inr ?_), hcw, .inl rfl, fun k hk => ?_, ?_, FV.nil _ _, fun k e => absurd e (hno k)⟩
  · rcases hk with rfl | hk
    · omega
    · exact absurd hk (hno k)
  · have := h0.low
    rcases hk with rfl | hk
    · exact this
    · exact absurd hk (hno k)
  · rw [hY, ← hPA]; exact heap_alloc_new _ _
end
end Go.Proofs.YtekbppfocnbhbaaGreat.XC
