/- Lists of acts that came in. -/
import Derived.Test.YtikchlmfklbojaaMO
import Derived.ChangeOld
import Derived.ProofKit
import Derived.OpenShut
import Derived.Deep.Slices
set_option linter.unusedVariables false
set_option linter.unusedSimpArgs false
namespace Go.Proofs.Ytikchlmfklbojaa.MC
open Go.ChangeShapes Go.WideShapes Go.ChangeAt Go.RowKit

/-- Numbers as bytes. -/
def toBytes (zs : List Int) : List UInt8 := zs.map fun n => UInt8.ofNat n.toNat
theorem toBytes_cell {n : Int} (h : (Lit.int .u8 n).wf = true) : ((UInt8.ofNat n.toNat).toNat : Int) = n := by
  have := bounds_u8 h
  simp; omega
theorem toBytes_len (zs : List Int) (n : Nat) : (toBytes (zs.take n)).length ≤ n := by simp [toBytes]; omega
theorem hb_of_row {w : World} {a : Addr} {len cap : Nat} {zs : List Int} (hl : len ≤ cap) (hm : cap ≤ maxLen) (hz : zs.length = cap) (hc : ∀ i, i < cap → w.cell? (a.add i) = some (.int .u8 (zs.getD i 0))) (hw : ∀ n ∈ zs, (Lit.int .u8 n).wf = true) :
    HB w (.slice (some a) len cap) (toBytes (zs.take len)) := by
  have hlen : (toBytes (zs.take len)).length = len := by simp [toBytes]; omega
  by_cases h0 : len = 0
  · subst h0
    exact .inl ⟨by simp [toBytes], some a, cap, rfl, fun h => by cases h⟩
  · obtain ⟨b, off, spot⟩ := a
    have hspot : spot = none := by simpa [Addr.add] using World.cell?_spot (hc 0 (by omega))
    subst hspot
    refine .inr ⟨b, off, cap, by rw [hlen], by omega, hm, fun i hi => ?_⟩
    rw [hlen] at hi
    have := hc i (by omega)
    rw [add_none] at this
    rw [this]
    have hiz : i < zs.length := by omega
    have hg : zs.getD i 0 = zs[i] := by simp [List.getD, List.getElem?_eq_getElem hiz]
    have hg2 : (toBytes (zs.take len)).getD i 0 = UInt8.ofNat (zs[i]).toNat := by
      simp [toBytes, List.getD, List.getElem?_take_of_lt hi, List.getElem?_eq_getElem hiz]
    rw [hg, hg2, toBytes_cell (hw _ (List.getElem_mem hiz))]
/-- A list of acts in memory. -/
def HAc (w : World) (v : Value) (ls : List Ac) : Prop :=
  ∃ p cap, v = .slice p ls.length cap ∧ ∀ i a, ls[i]? = some a → ∃ g o dv, p = some ⟨g, o, none⟩ ∧ w.rangeAt g (o + i * 5) (acL a dv) ∧ a.ok ∧ HB w dv a.bytes
theorem hac_below {w w' : World} {v : Value} {ls : List Ac} (h : HAc w v ls) (hb : Below w.heap.size w w') : HAc w' v ls := by
  obtain ⟨p, cap, e, h1⟩ := h
  refine ⟨p, cap, e, fun i a ha => ?_⟩
  obtain ⟨g, o, dv, e1, h2, h3, h4⟩ := h1 i a ha
  exact ⟨g, o, dv, e1, rangeAt_below h2 hb, h3, h4.below hb⟩
section
variable {H : Type} {enc : TypeId × Value → H} {w : World} {base : Nat} {held : Bool}
theorem open_bytes {v : Value} {fuel : Nat} {x : DataW H × List MemPlace} (h : DataW.trod enc Try.prog w base (fun _ => true) held fuel 32 [v] = some x) : ∃ l, HB w v l ∧ l.length ≤ 9223372036854775807 := by
  rcases open_ints Try.underlying32 Try.underlying5 (by kernel_rfl) h with ⟨hcs, _⟩ | ⟨a, len, cap, zs, hcs, _, hl, hm, hz, _, hc, hw⟩
  · simp only [List.cons.injEq, and_true] at hcs
    subst hcs
    exact ⟨[], .inl ⟨rfl, none, 0, rfl, fun _ => rfl⟩, by decide⟩
  · simp only [List.cons.injEq, and_true] at hcs
    subst hcs
    simp only [if_true] at hz
    exact ⟨_, hb_of_row hl hm hz (fun i hi => hc i (by omega)) hw, by have := toBytes_len zs len; unfold maxLen at hm; omega⟩
theorem split5 {l : List Value} (h : l.length = 5) : ∃ a b c d e, l = [a, b, c, d, e] := by
  match l, h with
  | [a, b, c, d, e], _ => exact ⟨a, b, c, d, e, rfl⟩
theorem open_acc {cs : List Value} {fuel : Nat} {x : DataW H × List MemPlace} (h : DataW.trod enc Try.prog w base (fun _ => true) held fuel 34 cs = some x) :
    ∃ a dv, cs = acL a dv ∧ a.ok ∧ HB w dv a.bytes := by
  cases fuel with
  | zero => simp [DataW.trod] at h
  | succ m =>
    rw [DataW.trod_step] at h
    unfold DataW.trodStep at h
    simp only [Try.underlying34] at h
    have hcell : Try.prog.cellsOf 34 = 5 := by kernel_rfl
    have c0 : Try.prog.cellsOf 3 = 1 := by kernel_rfl
    have c1 : Try.prog.cellsOf 23 = 1 := by kernel_rfl
    have c2 : Try.prog.cellsOf 32 = 1 := by kernel_rfl
    by_cases hl : cs.length = Try.prog.cellsOf 34
    · rw [if_pos hl] at h
      rw [hcell] at hl
      obtain ⟨v0, v1, v2, v3, v4, rfl⟩ := split5 hl
      simp only [Option.map_eq_some_iff, List.mapM_cons, List.mapM_nil, bind, Option.bind_eq_some_iff, pure, Option.some.injEq, c0, c1, c2] at h
      obtain ⟨ys, ⟨y0, h0, z0, ⟨y1, h1, z1, ⟨y2, h2, z2, ⟨y3, h3, z3, ⟨y4, h4, _⟩, _⟩, _⟩, _⟩, _⟩, _⟩ := h
      obtain ⟨k, f0, _, w0⟩ := DataW.trod_int Try.underlying3 h0
      obtain ⟨g, f1, _, w1⟩ := DataW.trod_int Try.underlying3 h1
      obtain ⟨ad, f2, _, w2⟩ := DataW.trod_int Try.underlying23 h2
      obtain ⟨wd, f3, _, w3⟩ := DataW.trod_int Try.underlying23 h3
      obtain ⟨l, hb, hbl⟩ := open_bytes (v := v4) h4
      have g0 : v0 = .int .i64 k := (List.cons.inj f0).1
      have g1 : v1 = .int .i64 g := (List.cons.inj f1).1
      have g2 : v2 = .int .u64 ad := (List.cons.inj f2).1
      have g3 : v3 = .int .u64 wd := (List.cons.inj f3).1
      have b2 := bounds_u64 w2
      have b3 := bounds_u64 w3
      refine ⟨⟨k, g, ad.toNat, wd.toNat, l⟩, v4, ?_, ⟨by simp; omega, by simp; omega, hbl⟩, hb⟩
      unfold acL
      rw [g0, g1, g2, g3, show ((ad.toNat : Nat) : Int) = ad by omega, show ((wd.toNat : Nat) : Int) = wd by omega]
    · rw [if_neg hl] at h; cases h
theorem choose_nat {α : Type} {n : Nat} {p : Nat → α → Prop} (h : ∀ i, i < n → ∃ x, p i x) : ∃ l : List α, l.length = n ∧ ∀ i x, l[i]? = some x → p i x := by
  induction n with
  | zero => exact ⟨[], rfl, fun i x hx => by simp at hx⟩
  | succ n ih =>
    obtain ⟨l, h1, h2⟩ := ih (fun i hi => h i (by omega))
    obtain ⟨x, hx⟩ := h n (by omega)
    refine ⟨l ++ [x], by simp [h1], fun i y hy => ?_⟩
    rcases Nat.lt_or_ge i l.length with hi | hi
    · rw [List.getElem?_append_left hi] at hy; exact h2 i y hy
    · rw [List.getElem?_append_right hi] at hy
      have hi0 : i - l.length = 0 := by have := (List.getElem?_eq_some_iff.1 hy).1; simp at this; omega
      rw [hi0] at hy
      have e : x = y := by simpa using hy
      have e2 : i = n := by omega
      rw [← e, e2]; exact hx
theorem cells_range {W : World} {base : Nat} {g o : Nat} {n : Nat} {cs : List Value} (h : W.cells? base ⟨g, o, none⟩ n = some cs) : W.rangeAt g o cs := fun j v hv => by
  obtain ⟨_, h2, h3⟩ := World.cells?_some h
  have hj : j < n := by rw [← h2]; exact (List.getElem?_eq_some_iff.1 hv).1
  have := h3 j hj
  rw [add_none] at this
  rw [this, hv]
theorem spot_none {W : World} {base : Nat} {g o : Nat} {sp : Option Nat} {k n : Nat} {cs : List Value} (hn : 0 < n) (h : W.cells? base ((⟨g, o, sp⟩ : Addr).add (0 * k)) n = some cs) : sp = none := by
  obtain ⟨_, h2, h3⟩ := World.cells?_some h
  have h0 := h3 0 hn
  have hl : 0 < cs.length := by omega
  rw [List.getElem?_eq_getElem hl] at h0
  have hs := World.cell?_spot h0
  cases sp with
  | none => rfl
  | some t =>
    exfalso
    simp [Addr.add] at hs
theorem open_acts {v : Value} {fuel : Nat} {x : DataW H × List MemPlace} (h : DataW.trod enc Try.prog w base (fun _ => true) held fuel 22 [v] = some x) : ∃ ls, HAc w v ls ∧ ls.length ≤ 9223372036854775807 := by
  have hcell : Try.prog.cellsOf 34 = 5 := by kernel_rfl
  rcases Go.Deep.open_slice Try.underlying22 h with ⟨hcs, _⟩ | ⟨a, len, cap, m, n, D, Pl, hcs, hb, hl, hm, hmm, _, hr⟩
  · simp only [List.cons.injEq, and_true] at hcs
    subst hcs
    exact ⟨[], ⟨none, 0, rfl, fun i a ha => by simp at ha⟩, by decide⟩
  · simp only [List.cons.injEq, and_true] at hcs
    subst hcs
    simp only [if_true] at hmm
    rw [hcell] at hr
    obtain ⟨g, o, sp⟩ := a
    have hsp : 0 < len → sp = none := fun h0 => by
      obtain ⟨cs', h1, _⟩ := hr 0 (by omega)
      exact spot_none (by omega) h1
    obtain ⟨ls, h1, h2⟩ := choose_nat (n := len) (p := fun i (a : Ac) => ∃ dv, w.rangeAt g (o + i * 5) (acL a dv) ∧ a.ok ∧ HB w dv a.bytes) (fun i hi => by
      obtain ⟨cs', h1, h2⟩ := hr i (by omega)
      obtain ⟨a, dv, e1, rest⟩ := open_acc h2
      have hs := hsp (by omega)
      subst hs
      rw [add_none] at h1
      exact ⟨a, dv, by rw [← e1]; exact cells_range h1, rest⟩)
    refine ⟨ls, ⟨some ⟨g, o, sp⟩, cap, by rw [h1], fun i a ha => ?_⟩, by unfold maxLen at hm; omega⟩
    have hi : i < len := by rw [← h1]; exact (List.getElem?_eq_some_iff.1 ha).1
    obtain ⟨dv, h3⟩ := h2 i a ha
    exact ⟨g, o, dv, by rw [hsp (by omega)], h3⟩
end
end Go.Proofs.Ytikchlmfklbojaa.MC
