/- Lists of asks that came in; contract of the statements' much. -/
import Derived.Test.YtefhjjjjbkkedaaGreatQS
import Derived.Test.YtefhjjjjbkkedaaGreatQB
set_option linter.unusedVariables false
set_option linter.unusedSimpArgs false
namespace Go.Proofs.YtefhjjjjbkkedaaGreat.R5
open scoped Classical
open Go.ChangeShapes Go.WideShapes Go.ChangeAt Go.RowKit

/-- An ask of the statements'. -/
structure Ak where
  kind : Int
  n : Int
  q : Qn
def akL (a : Ak) (dv : Value) : List Value := .int .i64 a.kind :: .int .i64 a.n :: qL a.q dv
theorem akL_len (a : Ak) (dv : Value) (h : a.q.key.length = 32) : (akL a dv).length = 37 := by unfold akL; simp [qL_len _ _ h]
/-- A list of them in memory. -/
def HAs (w : World) (v : Value) (ls : List Ak) : Prop :=
  ∃ p cap, v = .slice p ls.length cap ∧ ∀ i a, ls[i]? = some a → ∃ g o dv, p = some ⟨g, o, none⟩ ∧ w.rangeAt g (o + i * 37) (akL a dv) ∧ a.q.key.length = 32 ∧ (Lit.int .i64 a.q.kind).wf = true ∧ (Lit.int .i64 a.q.dom).wf = true ∧ (Lit.int .i64 a.kind).wf = true ∧ (Lit.int .i64 a.n).wf = true ∧ HB w dv a.q.data
theorem has_below {w w' : World} {v : Value} {ls : List Ak} (h : HAs w v ls) (hb : Below w.heap.size w w') : HAs w' v ls := by
  obtain ⟨p, cap, e, h1⟩ := h
  refine ⟨p, cap, e, fun i a ha => ?_⟩
  obtain ⟨g, o, dv, e1, h2, h3, h4, h5, h6, h7, h8⟩ := h1 i a ha
  exact ⟨g, o, dv, e1, rangeAt_below h2 hb, h3, h4, h5, h6, h7, h8.below hb⟩
/-- What the cells of an ask say. -/
theorem ak_facts {w : World} {g o : Nat} {a : Ak} {dv : Value} (hk : a.q.key.length = 32) (h : w.rangeAt g o (akL a dv)) :
    w.cell? ⟨g, o, none⟩ = some (.int .i64 a.kind) ∧ w.cell? ⟨g, o + 1, none⟩ = some (.int .i64 a.n) ∧ w.rangeAt g (o + 2) (qL a.q dv) ∧ w.cell? ⟨g, o + 2 + 33, none⟩ = some (.int .i64 a.q.dom) ∧ w.cell? ⟨g, o + 2 + 34, none⟩ = some dv := by
  have hq : w.rangeAt g (o + 2) (qL a.q dv) := fun j v hv => by
    have := h (2 + j) v (by unfold akL; rw [show 2 + j = j + 1 + 1 by omega, List.getElem?_cons_succ, List.getElem?_cons_succ]; exact hv)
    rw [show o + 2 + j = o + (2 + j) by omega]; exact this
  refine ⟨?_, ?_, hq, ?_, ?_⟩
  · have := h 0 _ (by unfold akL; rfl); simpa using this
  · exact h 1 _ (by unfold akL; rfl)
  · exact hq 33 _ (by have := qL_33 a.q dv hk; simpa using this)
  · exact hq 34 _ (by have := qL_34 a.q dv hk; simpa using this)
section
variable {H : Type} {enc : TypeId × Value → H} {w : World} {base : Nat} {held : Bool}
theorem split37 {l : List Value} (h : l.length = 37) : ∃ a b, l = a :: b :: l.drop 2 ∧ (l.drop 0).take 1 = [a] ∧ (l.drop 1).take 1 = [b] ∧ (l.drop 2).take 35 = l.drop 2 := by
  match l, h with
  | a :: b :: t, h => exact ⟨a, b, rfl, rfl, rfl, List.take_of_length_le (by simp at h ⊢; omega)⟩
theorem open_akc {cs : List Value} {fuel : Nat} {x : DataW H × List MemPlace} (h : DataW.trod enc Tryz.prog w base (fun _ => true) held fuel 41 cs = some x) :
    ∃ a dv, cs = akL a dv ∧ a.q.key.length = 32 ∧ (Lit.int .i64 a.q.kind).wf = true ∧ (Lit.int .i64 a.q.dom).wf = true ∧ (Lit.int .i64 a.kind).wf = true ∧ (Lit.int .i64 a.n).wf = true ∧ HB w dv a.q.data := by
  cases fuel with
  | zero => simp [DataW.trod] at h
  | succ m =>
    rw [DataW.trod_step] at h
    unfold DataW.trodStep at h
    simp only [Tryz.underlying41] at h
    have hcell : Tryz.prog.cellsOf 41 = 37 := by kernel_rfl
    have c0 : Tryz.prog.cellsOf 3 = 1 := by kernel_rfl
    have c1 : Tryz.prog.cellsOf 39 = 35 := by kernel_rfl
    by_cases hl : cs.length = Tryz.prog.cellsOf 41
    · rw [if_pos hl] at h
      simp only [Option.map_eq_some_iff, List.mapM_cons, List.mapM_nil, bind, Option.bind_eq_some_iff, pure, Option.some.injEq, c0, c1] at h
      obtain ⟨ys, ⟨y0, h0, z0, ⟨y1, h1, z1, ⟨y2, h2, _⟩, _⟩, _⟩, _⟩ := h
      rw [hcell] at hl
      obtain ⟨ka, kb, e0, e1, e2, e3⟩ := split37 hl
      obtain ⟨k, f0, _, w0⟩ := DataW.trod_int Tryz.underlying3 h0
      obtain ⟨n, f1, _, w1⟩ := DataW.trod_int Tryz.underlying3 h1
      rw [e3] at h2
      obtain ⟨q, dv, hq⟩ := open_qc h2
      rw [e1] at f0
      rw [e2] at f1
      have g0 : ka = .int .i64 k := (List.cons.inj f0).1
      have g1 : kb = .int .i64 n := (List.cons.inj f1).1
      exact ⟨⟨k, n, q⟩, dv, by rw [e0, hq.cs, g0, g1]; rfl, hq.key, hq.kind, hq.dom, w0, w1, hq.data⟩
    · rw [if_neg hl] at h; cases h
theorem choose_nat {α : Type} {n : Nat} {p : Nat → α → Prop} (h : ∀ i, i < n → ∃ x, p i x) : ∃ l : List α, l.length = n ∧ ∀ i x, l[i]? = some x → p i x := by
  induction n with
  | zero => exact ⟨[], rfl, fun i x hx => by simp at hx⟩
  | succ n ih =>
    obtain ⟨l, h1, h2⟩ := ih (fun i hi => h i (by omega))
    obtain ⟨x, hx⟩ := h n (by omega)
    refine ⟨l ++ [x], by simp [h1], fun i y hy => ?_⟩
    rcases Nat.lt_or_ge i l.length with hi | hi
    · rw [List.getElem?_append_left hi] at hy; exact h2 i y hy
    · rw [List.getElem?_append_right hi] at hy
      have hi0 : i - l.length = 0 := by have := (List.getElem?_eq_some_iff.1 hy).1; simp at this; omega
      rw [hi0] at hy
      have e : x = y := by simpa using hy
      have e2 : i = n := by omega
      rw [← e, e2]; exact hx
theorem cells_range {W : World} {base : Nat} {g o : Nat} {n : Nat} {cs : List Value} (h : W.cells? base ⟨g, o, none⟩ n = some cs) : W.rangeAt g o cs := fun j v hv => by
  obtain ⟨_, h2, h3⟩ := World.cells?_some h
  have hj : j < n := by rw [← h2]; exact (List.getElem?_eq_some_iff.1 hv).1
  have := h3 j hj
  have hadd : (⟨g, o, none⟩ : Addr).add j = ⟨g, o + j, none⟩ := by unfold Addr.add; split <;> simp_all
  rw [hadd] at this
  rw [this, hv]
theorem spot_none {W : World} {base : Nat} {g o : Nat} {sp : Option Nat} {k n : Nat} {cs : List Value} (hn : 0 < n) (h : W.cells? base ((⟨g, o, sp⟩ : Addr).add (0 * k)) n = some cs) : sp = none := by
  obtain ⟨_, h2, h3⟩ := World.cells?_some h
  have h0 := h3 0 hn
  have hl : 0 < cs.length := by omega
  rw [List.getElem?_eq_getElem hl] at h0
  have hs := World.cell?_spot h0
  cases sp with
  | none => rfl
  | some t =>
    exfalso
    simp [Addr.add] at hs
theorem open_asks {v : Value} {fuel : Nat} {x : DataW H × List MemPlace} (h : DataW.trod enc Tryz.prog w base (fun _ => true) held fuel 23 [v] = some x) : ∃ ls, HAs w v ls ∧ ls.length ≤ 9223372036854775807 := by
  have hcell : Tryz.prog.cellsOf 41 = 37 := by kernel_rfl
  rcases Go.Deep.open_slice Tryz.underlying23 h with ⟨hcs, _⟩ | ⟨a, len, cap, m, n, D, Pl, hcs, hb, hl, hm, hmm, _, hr⟩
  · simp only [List.cons.injEq, and_true] at hcs
    subst hcs
    exact ⟨[], ⟨none, 0, rfl, fun i a ha => by simp at ha⟩, by decide⟩
  · simp only [List.cons.injEq, and_true] at hcs
    subst hcs
    simp only [if_true] at hmm
    rw [hcell] at hr
    obtain ⟨g, o, sp⟩ := a
    have hsp : 0 < len → sp = none := fun h0 => by
      obtain ⟨cs', h1, _⟩ := hr 0 (by omega)
      exact spot_none (by omega) h1
    obtain ⟨ls, h1, h2⟩ := choose_nat (n := len) (p := fun i (a : Ak) => ∃ dv, w.rangeAt g (o + i * 37) (akL a dv) ∧ a.q.key.length = 32 ∧ (Lit.int .i64 a.q.kind).wf = true ∧ (Lit.int .i64 a.q.dom).wf = true ∧ (Lit.int .i64 a.kind).wf = true ∧ (Lit.int .i64 a.n).wf = true ∧ HB w dv a.q.data) (fun i hi => by
      obtain ⟨cs', h1, h2⟩ := hr i (by omega)
      obtain ⟨a, dv, e1, rest⟩ := open_akc h2
      have hs := hsp (by omega)
      subst hs
      have hadd : (⟨g, o, none⟩ : Addr).add (i * 37) = ⟨g, o + i * 37, none⟩ := by unfold Addr.add; split <;> simp_all
      rw [hadd] at h1
      exact ⟨a, dv, by rw [← e1]; exact cells_range h1, rest⟩)
    refine ⟨ls, ⟨some ⟨g, o, sp⟩, cap, by rw [h1], fun i a ha => ?_⟩, by unfold maxLen at hm; omega⟩
    have hi : i < len := by rw [← h1]; exact (List.getElem?_eq_some_iff.1 ha).1
    obtain ⟨dv, h3⟩ := h2 i a ha
    exact ⟨g, o, dv, by rw [hsp (by omega)], h3⟩
theorem open_digs {a : Option Addr} {len cap : Nat} {fuel : Nat} {x : DataW H × List MemPlace} (h : DataW.trod enc Tryz.prog w base (fun _ => true) held fuel 22 [.slice a len cap] = some x) : ∃ ds, HDs w (.slice a len cap) ds ∧ ds.length ≤ 9223372036854775807 ∧ (a = none → cap = 0) := by
  have hcell : Tryz.prog.cellsOf 29 = 32 := by kernel_rfl
  rcases Go.Deep.open_slice Tryz.underlying22 h with ⟨hcs, _⟩ | ⟨ad, len', cap', m, n, D, Pl, hcs, hb, hl, hm, hmm, _, hr⟩
  · simp only [List.cons.injEq, and_true, Value.slice.injEq] at hcs
    obtain ⟨rfl, rfl, rfl⟩ := hcs
    exact ⟨[], ⟨fun d hd => by simp at hd, none, 0, rfl, fun i hi => by simp at hi⟩, by decide, fun _ => rfl⟩
  · simp only [List.cons.injEq, and_true, Value.slice.injEq] at hcs
    obtain ⟨rfl, rfl, rfl⟩ := hcs
    simp only [if_true] at hmm
    rw [hcell] at hr
    obtain ⟨g, o, sp⟩ := ad
    have hsp : 0 < len → sp = none := fun h0 => by
      obtain ⟨cs', h1, _⟩ := hr 0 (by omega)
      exact spot_none (by omega) h1
    obtain ⟨ds, h1, h2⟩ := choose_nat (n := len) (p := fun i (d : List UInt8) => w.rangeAt g (o + i * 32) (d.map B8) ∧ d.length = 32) (fun i hi => by
      obtain ⟨cs', h1, h2⟩ := hr i (by omega)
      obtain ⟨bs, e1, e2⟩ := open_octc Tryz.underlying29 hcell (by kernel_rfl) h2
      have hs := hsp (by omega)
      subst hs
      have hadd : (⟨g, o, none⟩ : Addr).add (i * 32) = ⟨g, o + i * 32, none⟩ := by unfold Addr.add; split <;> simp_all
      rw [hadd] at h1
      exact ⟨bs, by rw [← e1]; exact cells_range h1, e2⟩)
    refine ⟨ds, ⟨fun d hd => ?_, some ⟨g, o, sp⟩, cap, by rw [h1], fun i hi => ⟨g, o, by rw [hsp (by omega)], ?_⟩⟩, by unfold maxLen at hm; omega, fun h => by cases h⟩
    · obtain ⟨i, hi⟩ := List.getElem?_of_mem hd
      exact (h2 i d hi).2
    · rw [List.getD, List.getElem?_eq_getElem hi]
      exact (h2 i _ (List.getElem?_eq_getElem hi)).1
end
/-- Are there many, or long ones? -/
def muchB (ls : List Ak) : Bool := ls.any (fun a => decide (300 < a.q.data.length)) || decide (40 < ls.length)
theorem any_drop (ls : List Ak) (p : Ak → Bool) (k : Nat) (a : Ak) (h : ls[k]? = some a) : (ls.drop k).any p = (p a || (ls.drop (k + 1)).any p) := by
  have hk : k < ls.length := (List.getElem?_eq_some_iff.1 h).1
  rw [List.drop_eq_getElem_cons hk]
  have e : ls[k] = a := by rw [List.getElem?_eq_getElem hk] at h; simpa using h
  rw [e, List.any_cons]
set_option maxHeartbeats 4000000 in
set_option maxRecDepth 100000 in
theorem much_any (v : Value) (ls : List Ak) (w : World) (hl : ls.length ≤ 9223372036854775807) (h : HAs w v ls) : Calls Tryz.prog 5 #[v] w fun e w' => e = .returned (.bool (muchB ls)) ∧ w' = w := by
  obtain ⟨p, cap, rfl, hr⟩ := h
  have HR : Hid _ := hr
  clear hr
  go_enter Tryz.func5, Tryz.ntmps5
  go_wp2
  go_loopw [3] (fun i wr => ∃ k : Nat, k ≤ ls.length ∧ i = .int .i64 k ∧ ls.any (fun a => decide (300 < a.q.data.length)) = (ls.drop k).any (fun a => decide (300 < a.q.data.length)) ∧ wr = w) (fun i _ => ls.length - (intOf i).toNat)
  case atStart => exact ⟨0, Nat.zero_le _, rfl, rfl, rfl⟩
  case round =>
    obtain ⟨k, hk, rfl, hany, hwr⟩ := hrel
    subst hwr
    have HANY : Hid _ := hany
    clear hany
    by_cases hlt : k < ls.length
    · have hkI : (k : Int) < (ls.length : Int) := by omega
      obtain ⟨a, ha⟩ : ∃ a, ls[k]? = some a := ⟨_, List.getElem?_eq_getElem hlt⟩
      obtain ⟨g, o, dv, hp, hra, hkk, _, _, _, _, hd⟩ := HR.out k a ha
      obtain ⟨f0, f1, f2, f3, f4⟩ := ak_facts hkk hra
      obtain ⟨pd, cd, hdv, _⟩ := hb_cells hd
      subst hp hdv
      have hdr := any_drop ls (fun a => decide (300 < a.q.data.length)) k a ha
      have f5 : wr.cell? ⟨g, o + k * 37 + 36, none⟩ = some (.slice pd a.q.data.length cd) := f4
      have HDR : Hid _ := hdr
      clear f0 f1 f2 f3 f4 hra hd ha hdr
      by_cases h3 : 300 < a.q.data.length
      · have h3I : (300 : Int) < (a.q.data.length : Int) := by omega
        have HM : Hid (muchB ls = true) := by show _ = _; unfold muchB; rw [HANY.out, HDR.out]; simp [h3]
        go_wp2
        go_ret
        exact ⟨by rw [HM.out]; rfl, rfl⟩
      · have h3I : ¬ (300 : Int) < (a.q.data.length : Int) := by omega
        go_wp2
        go_roundw
        case rel => exact ⟨k + 1, by omega, by go_num, by rw [HANY.out, HDR.out]; simp [h3], by first | rfl | trivial⟩
        case measure => simp [intOf]; omega
    · have hke : k = ls.length := by omega
      subst hke
      have hkI : ¬ (ls.length : Int) < (ls.length : Int) := by omega
      have HM : Hid (muchB ls = decide (40 < ls.length)) := by show _ = _; unfold muchB; rw [HANY.out, List.drop_length]; rfl
      go_wp2
      go_ret
      refine ⟨?_, rfl⟩
      rw [HM.out]
      show Ending.returned (Value.bool (decide ((40 : Int) < (ls.length : Int)))) = _
      rw [show decide ((40 : Int) < (ls.length : Int)) = decide (40 < ls.length) by by_cases h : 40 < ls.length <;> simp [h] <;> omega]
end Go.Proofs.YtefhjjjjbkkedaaGreat.R5
