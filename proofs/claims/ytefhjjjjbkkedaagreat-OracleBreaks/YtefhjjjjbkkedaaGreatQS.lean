/- What came in, opened: bytes, digests, questions, lists of them. -/
import Derived.Test.YtefhjjjjbkkedaaGreatC9
import Derived.Test.YtefhjjjjbkkedaaGreatD9
import Derived.ChangeOld
import Derived.ProofKit
import Derived.OpenShut
import Derived.Deep.Slices
set_option linter.unusedVariables false
set_option linter.unusedSimpArgs false
namespace Go.Proofs.YtefhjjjjbkkedaaGreat.R5
open scoped Classical
open Go.ChangeShapes Go.WideShapes Go.ChangeAt Go.RowKit

/-- Numbers as bytes. -/
def toBytes (zs : List Int) : List UInt8 := zs.map fun n => UInt8.ofNat n.toNat
theorem toBytes_cell {n : Int} (h : (Lit.int .u8 n).wf = true) : ((UInt8.ofNat n.toNat).toNat : Int) = n := by
  have := bounds_u8 h
  simp; omega
theorem toBytes_len (zs : List Int) (n : Nat) : (toBytes (zs.take n)).length ≤ n := by simp [toBytes]; omega
theorem hb_of_row {w : World} {a : Addr} {len cap : Nat} {zs : List Int} (hl : len ≤ cap) (hm : cap ≤ maxLen) (hz : zs.length = cap) (hc : ∀ i, i < cap → w.cell? (a.add i) = some (.int .u8 (zs.getD i 0))) (hw : ∀ n ∈ zs, (Lit.int .u8 n).wf = true) :
    HB w (.slice (some a) len cap) (toBytes (zs.take len)) := by
  have hlen : (toBytes (zs.take len)).length = len := by simp [toBytes]; omega
  by_cases h0 : len = 0
  · subst h0
    exact .inl ⟨by simp [toBytes], some a, cap, rfl, fun h => by cases h⟩
  · obtain ⟨b, off, spot⟩ := a
    have hspot : spot = none := by simpa [Addr.add] using World.cell?_spot (hc 0 (by omega))
    subst hspot
    refine .inr ⟨b, off, cap, by rw [hlen], by omega, hm, fun i hi => ?_⟩
    rw [hlen] at hi
    have := hc i (by omega)
    have hadd : (⟨b, off, none⟩ : Addr).add i = ⟨b, off + i, none⟩ := by unfold Addr.add; split <;> simp_all
    rw [hadd] at this
    rw [this]
    have hiz : i < zs.length := by omega
    have hg : zs.getD i 0 = zs[i] := by simp [List.getD, List.getElem?_eq_getElem hiz]
    have hg2 : (toBytes (zs.take len)).getD i 0 = UInt8.ofNat (zs[i]).toNat := by
      simp [toBytes, List.getD, List.getElem?_take_of_lt hi, List.getElem?_eq_getElem hiz]
    rw [hg, hg2, toBytes_cell (hw _ (List.getElem_mem hiz))]
section
variable {H : Type} {enc : TypeId × Value → H} {w : World} {base : Nat} {held : Bool}
theorem open_bytes {v : Value} {fuel : Nat} {x : DataW H × List MemPlace} (h : DataW.trod enc Tryz.prog w base (fun _ => true) held fuel 37 [v] = some x) : ∃ l, HB w v l ∧ l.length ≤ 9223372036854775807 := by
  rcases open_ints Tryz.underlying37 Tryz.underlying5 (by kernel_rfl) h with ⟨hcs, _⟩ | ⟨a, len, cap, zs, hcs, _, hl, hm, hz, _, hc, hw⟩
  · simp only [List.cons.injEq, and_true] at hcs
    subst hcs
    exact ⟨[], .inl ⟨rfl, none, 0, rfl, fun _ => rfl⟩, by decide⟩
  · simp only [List.cons.injEq, and_true] at hcs
    subst hcs
    simp only [if_true] at hz
    exact ⟨_, hb_of_row hl hm hz (fun i hi => hc i (by omega)) hw, by have := toBytes_len zs len; unfold maxLen at hm; omega⟩
theorem mapM_u8 {m : Nat} {cs : List Value} {sp : Nat → Bool} : ∀ (L : List Nat) (ys : List (DataW H × List MemPlace)),
    L.mapM (fun i => DataW.trod enc Tryz.prog w base sp held m 5 ((cs.drop (i * 1)).take 1)) = some ys → ∀ i ∈ L, ∃ z, (cs.drop (i * 1)).take 1 = [.int .u8 z] ∧ (Lit.int .u8 z).wf = true
  | [], ys, h => by simp
  | i :: L, ys, h => by
    rw [List.mapM_cons] at h
    simp only [bind, Option.bind_eq_some_iff, pure, Option.some.injEq] at h
    obtain ⟨y, hy, ys', hys, rfl⟩ := h
    obtain ⟨a, ea, _, wa⟩ := DataW.trod_int Tryz.underlying5 hy
    intro j hj
    rcases List.mem_cons.1 hj with rfl | hj
    · exact ⟨a, ea, wa⟩
    · exact mapM_u8 L ys' hys j hj
/-- The cells of an array of bytes. -/
theorem open_octc {k : TypeId} {n : Nat} {cs : List Value} {fuel : Nat} {x : DataW H × List MemPlace} {sp : Nat → Bool} (hu : Tryz.prog.underlying k = some (.array n 5)) (hk : Tryz.prog.cellsOf k = n) (h1 : Tryz.prog.cellsOf 5 = 1)
    (h : DataW.trod enc Tryz.prog w base sp held fuel k cs = some x) : ∃ bs : List UInt8, cs = bs.map B8 ∧ bs.length = n := by
  cases fuel with
  | zero => simp [DataW.trod] at h
  | succ m =>
    rw [DataW.trod_step] at h
    unfold DataW.trodStep at h
    simp only [hu] at h
    by_cases hl : cs.length = Tryz.prog.cellsOf k
    · rw [if_pos hl] at h
      simp only [Option.map_eq_some_iff, h1] at h
      obtain ⟨ys, hy, e1⟩ := h
      have := mapM_u8 _ ys hy
      refine ⟨cs.map (fun v => match v with | .int _ z => UInt8.ofNat z.toNat | _ => 0), ?_, by rw [List.length_map, hl, hk]⟩
      apply List.ext_getElem
      · simp
      · intro i h2 h3
        obtain ⟨z, e, hw⟩ := this i (by rw [hl, hk] at h2; simpa using h2)
        rw [Nat.mul_one, List.drop_eq_getElem_cons h2] at e
        rw [List.take_succ_cons, List.take_zero] at e
        have e2 : cs[i] = .int .u8 z := (List.cons.inj e).1
        have hb := toBytes_cell hw
        simp only [List.getElem_map]
        rw [e2]
        simp only [B8]
        rw [hb]
    · rw [if_neg hl] at h; cases h
end
/-- A question that came in. -/
structure QIn (w : World) (cs : List Value) (q : Qn) (dv : Value) : Prop where
  cs : cs = qL q dv
  key : q.key.length = 32
  kind : (Lit.int .i64 q.kind).wf = true
  dom : (Lit.int .i64 q.dom).wf = true
  data : HB w dv q.data
theorem QIn.hq {w : World} {cs : List Value} {q : Qn} {dv : Value} (h : QIn w cs q dv) : HQ w (.agg cs.toArray) q := ⟨h.key, dv, by rw [h.cs], h.data⟩
section
variable {H : Type} {enc : TypeId × Value → H} {w : World} {base : Nat} {held : Bool}
theorem list_split {l : List Value} (h : l.length = 35) : l = (l.drop 0).take 1 ++ ((l.drop 1).take 32 ++ ((l.drop 33).take 1 ++ (l.drop 34).take 1)) := by
  have e4 : (l.drop 34).take 1 = l.drop 34 := List.take_of_length_le (by simp [h])
  rw [e4]
  have e3 : (l.drop 33).take 1 ++ l.drop 34 = l.drop 33 := by
    have := List.take_append_drop 1 (l.drop 33)
    rw [List.drop_drop] at this
    exact this
  rw [e3]
  have e2 : (l.drop 1).take 32 ++ l.drop 33 = l.drop 1 := by
    have := List.take_append_drop 32 (l.drop 1)
    rw [List.drop_drop] at this
    exact this
  rw [e2]
  have := List.take_append_drop 1 (l.drop 0)
  rw [List.drop_drop] at this
  exact this.symm
/-- The cells of a question. -/
theorem open_qc {cs : List Value} {fuel : Nat} {x : DataW H × List MemPlace} (h : DataW.trod enc Tryz.prog w base (fun _ => true) held fuel 39 cs = some x) : ∃ q dv, QIn w cs q dv := by
  cases fuel with
  | zero => simp [DataW.trod] at h
  | succ m =>
    rw [DataW.trod_step] at h
    unfold DataW.trodStep at h
    simp only [Tryz.underlying39] at h
    have hcell : Tryz.prog.cellsOf 39 = 35 := by kernel_rfl
    have c0 : Tryz.prog.cellsOf 35 = 1 := by kernel_rfl
    have c1 : Tryz.prog.cellsOf 29 = 32 := by kernel_rfl
    have c2 : Tryz.prog.cellsOf 36 = 1 := by kernel_rfl
    have c3 : Tryz.prog.cellsOf 37 = 1 := by kernel_rfl
    by_cases hl : cs.length = Tryz.prog.cellsOf 39
    · rw [if_pos hl] at h
      simp only [Option.map_eq_some_iff, List.mapM_cons, List.mapM_nil, bind, Option.bind_eq_some_iff, pure, Option.some.injEq, c0, c1, c2, c3] at h
      obtain ⟨ys, ⟨y0, h0, z0, ⟨y1, h1, z1, ⟨y2, h2, z2, ⟨y3, h3, _⟩, _⟩, _⟩, _⟩, _⟩ := h
      obtain ⟨k, e0, _, w0⟩ := DataW.trod_int Tryz.underlying35 h0
      obtain ⟨ky, e1, hk⟩ := open_octc Tryz.underlying29 c1 (by kernel_rfl) h1
      obtain ⟨d, e2, _, w2⟩ := DataW.trod_int Tryz.underlying36 h2
      rw [hcell] at hl
      have hs := list_split hl
      rw [e0, e1, e2] at hs
      obtain ⟨dv, e3⟩ : ∃ dv, (cs.drop 34).take 1 = [dv] := by
        have : 34 < cs.length := by omega
        rw [List.drop_eq_getElem_cons this]
        exact ⟨_, rfl⟩
      rw [e3] at h3 hs
      obtain ⟨l, hb, _⟩ := open_bytes h3
      exact ⟨⟨k, ky, d, l⟩, dv, by rw [hs]; rfl, hk, w0, w2, hb⟩
    · rw [if_neg hl] at h; cases h
end
set_option maxRecDepth 100000 in
theorem okWide_str {W : World} {r : Reach} {b0 : Nat} {k : TypeId} {fs : Array Field} {v : Value} (hu : Tryz.prog.underlying k = some (.struct fs)) (h : Value.okWide Tryz.prog W r b0 k v) : ∃ xs : Array Value, v = .agg xs := by
  simp only [Value.okWide, hu] at h
  obtain ⟨cs, h1, _⟩ := h
  exact ⟨cs, h1⟩
end Go.Proofs.YtefhjjjjbkkedaaGreat.R5
