/- measure: what came in: digests, records, lists of them. -/
import Derived.Test.YtpmknkagnkagpaaGreatZE
import Derived.ChangeOld
import Derived.ProofKit
import Derived.OpenShut
import Derived.Deep.Slices
set_option linter.unusedVariables false
set_option linter.unusedSimpArgs false
namespace Go.Proofs.YtpmknkagnkagpaaGreat.ZC
open Go.ChangeShapes Go.WideShapes Go.ChangeAt Go.RowKit

set_option maxRecDepth 100000 in
theorem open_octets {H : Type} {enc : TypeId × Value → H} {W : World} {r : Reach} {b0 base : Nat} {held : Bool} {k : TypeId} {n : Nat} {v : Value} {d : DataW H} {ps : List MemPlace} (hu : Tryz.prog.underlying k = some (.array n 5)) (hk : Tryz.prog.cellsOf k = n)
    (ho : Value.okWide Tryz.prog W r b0 k v) (hd : DataW.Trod enc Tryz.prog W base (fun _ => true) held k v d ps) : ∃ bs : List UInt8, v = .agg (bs.map B8).toArray ∧ bs.length = n := by
  simp only [Value.okWide, hu] at ho
  obtain ⟨cs, h1, _⟩ := ho
  subst h1
  obtain ⟨fuel, hf⟩ := hd
  obtain ⟨l1, p1⟩ := PC.open_arr hu Tryz.underlying5 hk (by kernel_rfl) hf
  obtain ⟨bs, hb⟩ := PC.cells_u8 _ p1
  have e : cs.toList = bs.map B8 := hb
  refine ⟨bs, by rw [← e], ?_⟩
  have e2 : cs.toList.length = n := l1
  rw [e, List.length_map] at e2
  exact e2
section
variable {H : Type} {enc : TypeId × Value → H} {w : World} {base : Nat} {held : Bool}
theorem choose_nat {α : Type} {n : Nat} {p : Nat → α → Prop} (h : ∀ i, i < n → ∃ x, p i x) : ∃ l : List α, l.length = n ∧ ∀ i x, l[i]? = some x → p i x := by
  induction n with
  | zero => exact ⟨[], rfl, fun i x hx => by simp at hx⟩
  | succ n ih =>
    obtain ⟨l, h1, h2⟩ := ih (fun i hi => h i (by omega))
    obtain ⟨x, hx⟩ := h n (by omega)
    refine ⟨l ++ [x], by simp [h1], fun i y hy => ?_⟩
    rcases Nat.lt_or_ge i l.length with hi | hi
    · rw [List.getElem?_append_left hi] at hy; exact h2 i y hy
    · rw [List.getElem?_append_right hi] at hy
      have hi0 : i - l.length = 0 := by have := (List.getElem?_eq_some_iff.1 hy).1; simp at this; omega
      rw [hi0] at hy
      have e : x = y := by simpa using hy
      have e2 : i = n := by omega
      rw [← e, e2]; exact hx
theorem cells_range {W : World} {base : Nat} {g o : Nat} {n : Nat} {cs : List Value} (h : W.cells? base ⟨g, o, none⟩ n = some cs) : W.rangeAt g o cs := fun j v hv => by
  obtain ⟨_, h2, h3⟩ := World.cells?_some h
  have hj : j < n := by rw [← h2]; exact (List.getElem?_eq_some_iff.1 hv).1
  have := h3 j hj
  have hadd : (⟨g, o, none⟩ : Addr).add j = ⟨g, o + j, none⟩ := by unfold Addr.add; split <;> simp_all
  rw [hadd] at this
  rw [this, hv]
theorem spot_none {W : World} {base : Nat} {g o : Nat} {sp : Option Nat} {k n : Nat} {cs : List Value} (hn : 0 < n) (h : W.cells? base ((⟨g, o, sp⟩ : Addr).add (0 * k)) n = some cs) : sp = none := by
  obtain ⟨_, h2, h3⟩ := World.cells?_some h
  have h0 := h3 0 hn
  have hl : 0 < cs.length := by omega
  rw [List.getElem?_eq_getElem hl] at h0
  have hs := World.cell?_spot h0
  cases sp with
  | none => rfl
  | some t =>
    exfalso
    simp [Addr.add] at hs
theorem split5 {l : List Value} (h : l.length = 172) : l = (l.drop 0).take 1 ++ ((l.drop 1).take 32 ++ ((l.drop 33).take 1 ++ ((l.drop 34).take 128 ++ (l.drop 162).take 10))) := by
  have e1 := PC.split_at (l := l) 1 171 h
  have e2 := PC.split_at (l := l.drop 1) 32 139 (by simp [h])
  have e3 := PC.split_at (l := l.drop 33) 1 138 (by simp [h])
  have e4 := PC.split_at (l := l.drop 34) 128 10 (by simp [h])
  rw [List.drop_zero, List.drop_drop] at e2 e3 e4
  rw [List.take_of_length_le (l := l.drop (1 + 32)) (by simp [h])] at e2
  rw [List.take_of_length_le (l := l.drop (33 + 1)) (by simp [h])] at e3
  rw [List.take_of_length_le (l := l.drop 1) (by simp [h])] at e1
  rw [← e4, ← e3, ← e2]
  exact e1
theorem open_rd {cs : List Value} {fuel : Nat} {x : DataW H × List MemPlace} (h : DataW.trod enc Tryz.prog w base (fun _ => true) held fuel 33 cs = some x) : ∃ r : Rd, cs = rdL r ∧ r.ok := by
  cases fuel with
  | zero => simp [DataW.trod] at h
  | succ m =>
    rw [DataW.trod_step] at h
    unfold DataW.trodStep at h
    simp only [Tryz.underlying33] at h
    have hcell : Tryz.prog.cellsOf 33 = 172 := by kernel_rfl
    have c0 : Tryz.prog.cellsOf 25 = 1 := by kernel_rfl
    have c1 : Tryz.prog.cellsOf 24 = 32 := by kernel_rfl
    have c2 : Tryz.prog.cellsOf 3 = 1 := by kernel_rfl
    have c3 : Tryz.prog.cellsOf 27 = 128 := by kernel_rfl
    have c4 : Tryz.prog.cellsOf 31 = 10 := by kernel_rfl
    by_cases hl : cs.length = Tryz.prog.cellsOf 33
    · rw [if_pos hl] at h
      simp only [Option.map_eq_some_iff, List.mapM_cons, List.mapM_nil, bind, Option.bind_eq_some_iff, pure, Option.some.injEq, c0, c1, c2, c3, c4] at h
      obtain ⟨ys, ⟨y0, h0, z0, ⟨y1, h1, z1, ⟨y2, h2, z2, ⟨y3, h3, z3, ⟨y4, h4, _⟩, _⟩, _⟩, _⟩, _⟩, _⟩ := h
      obtain ⟨k, e0, _, w0⟩ := DataW.trod_int Tryz.underlying25 h0
      obtain ⟨l1, p1⟩ := PC.open_arr Tryz.underlying24 Tryz.underlying5 c1 (by kernel_rfl) h1
      obtain ⟨V, hV⟩ := PC.cells_u8 _ p1
      obtain ⟨pg, e2, _, w2⟩ := DataW.trod_int Tryz.underlying3 h2
      obtain ⟨l3, p3⟩ := PC.open_arr Tryz.underlying27 Tryz.underlying5 c3 (by kernel_rfl) h3
      obtain ⟨G, hG⟩ := PC.cells_u8 _ p3
      obtain ⟨pc, rs, r, e4, q1, q2, q3⟩ := PC.open_rc h4
      rw [hcell] at hl
      have hs := split5 hl
      rw [e0, hV, e2, hG, e4] at hs
      rw [hV, List.length_map] at l1
      rw [hG, List.length_map] at l3
      exact ⟨⟨k, V, pg, G, pc, rs, r⟩, hs, ⟨l1, l3, q1, q2, q3⟩⟩
    · rw [if_neg hl] at h; cases h
theorem open_recs {v : Value} {fuel : Nat} {x : DataW H × List MemPlace} (h : DataW.trod enc Tryz.prog w base (fun _ => true) held fuel 51 [v] = some x) : ∃ ls, HR w v ls ∧ ls.length ≤ 9223372036854775807 := by
  have hcell : Tryz.prog.cellsOf 33 = 172 := by kernel_rfl
  rcases Go.Deep.open_slice Tryz.underlying51 h with ⟨hcs, _⟩ | ⟨a, len, cap, m, n, D, Pl, hcs, hb, hl, hm, hmm, _, hr⟩
  · simp only [List.cons.injEq, and_true] at hcs
    subst hcs
    exact ⟨[], ⟨none, 0, rfl, fun i a ha => by simp at ha⟩, by decide⟩
  · simp only [List.cons.injEq, and_true] at hcs
    subst hcs
    simp only [if_true] at hmm
    rw [hcell] at hr
    obtain ⟨g, o, sp⟩ := a
    have hsp : 0 < len → sp = none := fun h0 => by
      obtain ⟨cs', h1, _⟩ := hr 0 (by omega)
      exact spot_none (by omega) h1
    obtain ⟨ls, h1, h2⟩ := choose_nat (n := len) (p := fun i (r : Rd) => w.rangeAt g (o + i * 172) (rdL r) ∧ r.ok) (fun i hi => by
      obtain ⟨cs', h1, h2⟩ := hr i (by omega)
      obtain ⟨r, e1, rest⟩ := open_rd h2
      have hs := hsp (by omega)
      subst hs
      rw [PC.add_none] at h1
      exact ⟨r, by rw [← e1]; exact cells_range h1, rest⟩)
    refine ⟨ls, ⟨some ⟨g, o, sp⟩, cap, by rw [h1], fun i a ha => ?_⟩, by unfold maxLen at hm; omega⟩
    have hi : i < len := by rw [← h1]; exact (List.getElem?_eq_some_iff.1 ha).1
    obtain ⟨h3, h4⟩ := h2 i a ha
    exact ⟨h4, g, o, by rw [hsp (by omega)], h3⟩
end
end Go.Proofs.YtpmknkagnkagpaaGreat.ZC
namespace Go.Proofs.YtpmknkagnkagpaaGreat.R5
open scoped Classical
open Go.ChangeShapes Go.WideShapes Go.ChangeAt Go.RowKit
open ZC (choose_nat cells_range spot_none)
section
variable {H : Type} {enc : TypeId × Value → H} {w : World} {base : Nat} {held : Bool}
set_option maxRecDepth 100000 in
theorem open_digs {a : Option Addr} {len cap : Nat} {fuel : Nat} {x : DataW H × List MemPlace} (h : DataW.trod enc Tryz.prog w base (fun _ => true) held fuel 22 [.slice a len cap] = some x) : ∃ ds, HDs w (.slice a len cap) ds ∧ ds.length ≤ 9223372036854775807 ∧ (a = none → cap = 0) := by
  have hcell : Tryz.prog.cellsOf 24 = 32 := by kernel_rfl
  rcases Go.Deep.open_slice Tryz.underlying22 h with ⟨hcs, _⟩ | ⟨ad, len', cap', m, n, D, Pl, hcs, hb, hl, hm, hmm, _, hr⟩
  · simp only [List.cons.injEq, and_true, Value.slice.injEq] at hcs
    obtain ⟨rfl, rfl, rfl⟩ := hcs
    exact ⟨[], ⟨fun d hd => by simp at hd, none, 0, rfl, fun i hi => by simp at hi⟩, by decide, fun _ => rfl⟩
  · simp only [List.cons.injEq, and_true, Value.slice.injEq] at hcs
    obtain ⟨rfl, rfl, rfl⟩ := hcs
    simp only [if_true] at hmm
    rw [hcell] at hr
    obtain ⟨g, o, sp⟩ := ad
    have hsp : 0 < len → sp = none := fun h0 => by
      obtain ⟨cs', h1, _⟩ := hr 0 (by omega)
      exact spot_none (by omega) h1
    obtain ⟨ds, h1, h2⟩ := choose_nat (n := len) (p := fun i (d : List UInt8) => w.rangeAt g (o + i * 32) (d.map B8) ∧ d.length = 32) (fun i hi => by
      obtain ⟨cs', h1, h2⟩ := hr i (by omega)
      obtain ⟨l1, p1⟩ := PC.open_arr Tryz.underlying24 Tryz.underlying5 hcell (by kernel_rfl) h2
      obtain ⟨bs, e1⟩ := PC.cells_u8 _ p1
      have e2 : bs.length = 32 := by rw [e1, List.length_map] at l1; exact l1
      have hs := hsp (by omega)
      subst hs
      have hadd : (⟨g, o, none⟩ : Addr).add (i * 32) = ⟨g, o + i * 32, none⟩ := by unfold Addr.add; split <;> simp_all
      rw [hadd] at h1
      exact ⟨bs, by rw [← e1]; exact cells_range h1, e2⟩)
    refine ⟨ds, ⟨fun d hd => ?_, some ⟨g, o, sp⟩, cap, by rw [h1], fun i hi => ⟨g, o, by rw [hsp (by omega)], ?_⟩⟩, by unfold maxLen at hm; omega, fun h => by cases h⟩
    · obtain ⟨i, hi⟩ := List.getElem?_of_mem hd
      exact (h2 i d hi).2
    · rw [List.getD, List.getElem?_eq_getElem hi]
      exact (h2 i _ (List.getElem?_eq_getElem hi)).1
end
end Go.Proofs.YtpmknkagnkagpaaGreat.R5
