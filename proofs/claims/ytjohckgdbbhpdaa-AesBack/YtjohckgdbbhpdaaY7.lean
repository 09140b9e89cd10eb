/- Arrays of bytes, slices of bytes that came in. -/
import Derived.Test.YtjohckgdbbhpdaaJ7
import Derived.ChangeOld
import Derived.ProofKit
import Derived.OpenShut
set_option linter.unusedVariables false
set_option linter.unusedSimpArgs false
namespace Go.Proofs.Ytjohckgdbbhpdaa
open Go.ChangeShapes Go.WideShapes Go.ChangeAt Go.RowKit

section
variable {H : Type} {enc : TypeId × Value → H} {P : Program} {k e : TypeId} {n : Nat} {q : IntKind} {W : World} {base : Nat} {sp : Nat → Bool} {held : Bool}

theorem mapM_ints (he : P.underlying e = some (.int q)) {m : Nat} {cs : List Value} {c : Nat} : ∀ (L : List Nat) (ys : List (DataW H × List MemPlace)),
    L.mapM (fun i => DataW.trod enc P W base sp held m e ((cs.drop (i * c)).take c)) = some ys → ∀ i ∈ L, ∃ z, (cs.drop (i * c)).take c = [.int q z] ∧ (Lit.int q z).wf = true
  | [], ys, h => by simp
  | i :: L, ys, h => by
    rw [List.mapM_cons] at h
    simp only [bind, Option.bind_eq_some_iff, pure, Option.some.injEq] at h
    obtain ⟨y, hy, ys', hys, rfl⟩ := h
    obtain ⟨a, ea, _, wa⟩ := DataW.trod_int he hy
    intro j hj
    rcases List.mem_cons.1 hj with rfl | hj
    · exact ⟨a, ea, wa⟩
    · exact mapM_ints he L ys' hys j hj

theorem open_row (hu : P.underlying k = some (.array n e)) (he : P.underlying e = some (.int q)) (hone : P.cellsOf e = 1) (hk : P.cellsOf k = n) {xs : Array Value} {d : DataW H} {ps : List MemPlace} (hn : xs.size = n)
    (hd : DataW.Trod enc P W base sp held k (.agg xs) d ps) : ∀ i (hi : i < n), ∃ z, xs[i]'(by omega) = .int q z ∧ (Lit.int q z).wf = true := by
  obtain ⟨fuel, hf⟩ := hd
  cases fuel with
  | zero => simp [DataW.trod] at hf
  | succ m =>
    rw [DataW.trod_step] at hf
    unfold DataW.trodStep at hf
    simp only [hu, Value.cells] at hf
    rw [if_pos (by rw [hk]; simpa using hn)] at hf
    simp only [Option.map_eq_some_iff] at hf
    obtain ⟨ys, hy, e1⟩ := hf
    have := mapM_ints he _ ys hy
    intro i hi
    obtain ⟨z, h1, h2⟩ := this i (by simpa using hi)
    refine ⟨z, ?_, h2⟩
    rw [hone, Nat.mul_one] at h1
    have hl : i < xs.toList.length := by simpa [hn] using hi
    rw [List.drop_eq_getElem_cons hl] at h1
    simpa using h1
end

theorem okWide_agg {W : World} {r : Reach} {b0 : Nat} {k e : TypeId} {n : Nat} {v : Value} (hu : Try.prog.underlying k = some (.array n e)) (hk : Try.prog.cellsOf k = n) (h : Value.okWide Try.prog W r b0 k v) : ∃ xs : Array Value, v = .agg xs ∧ xs.size = n := by
  simp only [Value.okWide, hu] at h
  obtain ⟨cs, h1, h2, _⟩ := h
  exact ⟨cs, h1, by rw [h2, hk]⟩

theorem open_octets {H : Type} {enc : TypeId × Value → H} {W : World} {r : Reach} {b0 base : Nat} {sp : Nat → Bool} {held : Bool} {k : TypeId} {n : Nat} {v : Value} {d : DataW H} {ps : List MemPlace} (hu : Try.prog.underlying k = some (.array n 5)) (hk : Try.prog.cellsOf k = n)
    (ho : Value.okWide Try.prog W r b0 k v) (hd : DataW.Trod enc Try.prog W base sp held k v d ps) : ∃ bs : List UInt8, v = .agg (bs.map B8).toArray ∧ bs.length = n := by
  obtain ⟨xs, rfl, hn⟩ := okWide_agg hu hk ho
  have h := open_row hu Try.underlying5 (by kernel_rfl) hk hn hd
  refine ⟨xs.toList.map (fun v => match v with | .int _ z => UInt8.ofNat z.toNat | _ => 0), ?_, by simpa using hn⟩
  congr 1
  apply Array.ext
  · simp
  · intro i h1 h2
    obtain ⟨z, e, hw⟩ := h i (by omega)
    have hb := bounds_u8 hw
    have : ((UInt8.ofNat z.toNat).toNat : Int) = z := by simp; omega
    simp [e, B8]; omega

/-- Numbers as bytes. -/
def toBytes (zs : List Int) : List UInt8 := zs.map fun n => UInt8.ofNat n.toNat

theorem toBytes_cell {n : Int} (h : (Lit.int .u8 n).wf = true) : ((UInt8.ofNat n.toNat).toNat : Int) = n := by
  have := bounds_u8 h
  simp; omega

theorem HB.of_row {w : World} {a : Addr} {len cap : Nat} {zs : List Int} (hl : len ≤ cap) (hm : cap ≤ maxLen) (hz : zs.length = cap) (hc : ∀ i, i < cap → w.cell? (a.add i) = some (.int .u8 (zs.getD i 0))) (hw : ∀ n ∈ zs, (Lit.int .u8 n).wf = true) :
    HB w (.slice (some a) len cap) (toBytes (zs.take len)) := by
  have hlen : (toBytes (zs.take len)).length = len := by simp [toBytes]; omega
  by_cases h0 : len = 0
  · subst h0
    exact .inl ⟨by simp [toBytes], some a, cap, rfl, fun h => by cases h⟩
  · obtain ⟨b, off, spot⟩ := a
    have hspot : spot = none := by simpa [Addr.add] using World.cell?_spot (hc 0 (by omega))
    subst hspot
    refine .inr ⟨b, off, cap, by rw [hlen], by omega, hm, fun i hi => ?_⟩
    rw [hlen] at hi
    have := hc i (by omega)
    have hadd : (⟨b, off, none⟩ : Addr).add i = ⟨b, off + i, none⟩ := by unfold Addr.add; split <;> simp_all
    rw [hadd] at this
    rw [this]
    have hiz : i < zs.length := by omega
    have hg : zs.getD i 0 = zs[i] := by simp [List.getD, List.getElem?_eq_getElem hiz]
    have hg2 : (toBytes (zs.take len)).getD i 0 = UInt8.ofNat (zs[i]).toNat := by
      simp [toBytes, List.getD, List.getElem?_take_of_lt hi, List.getElem?_eq_getElem hiz]
    rw [hg, hg2, toBytes_cell (hw _ (List.getElem_mem hiz))]

theorem HB.of_any {w : World} {A : Option Addr} {len cap : Nat} {zs : List Int} (hl : len ≤ cap) (hm : cap ≤ maxLen) (hz : zs.length = cap) (hw : ∀ n ∈ zs, (Lit.int .u8 n).wf = true) (hn : A = none → cap = 0) (hc : ∀ a, A = some a → ∀ i, i < cap → w.cell? (a.add i) = some (.int .u8 (zs.getD i 0))) :
    HB w (.slice A len cap) (toBytes (zs.take len)) := by
  cases A with
  | none =>
    have := hn rfl
    subst this
    have : len = 0 := by omega
    subst this
    exact .inl ⟨by simp [toBytes], none, 0, rfl, fun _ => rfl⟩
  | some a => exact HB.of_row hl hm hz (hc a rfl) hw

theorem toBytes_len (zs : List Int) (n : Nat) : (toBytes (zs.take n)).length ≤ n := by simp [toBytes]; omega

section
variable {H : Type} {enc : TypeId × Value → H} {w : World} {base : Nat} {held : Bool}

theorem open_bytes {v : Value} {fuel : Nat} {x : DataW H × List MemPlace} (h : DataW.trod enc Try.prog w base (fun _ => true) held fuel 36 [v] = some x) : ∃ l, HB w v l ∧ l.length ≤ 9223372036854775807 := by
  rcases open_ints Try.underlying36 Try.underlying5 (by kernel_rfl) h with ⟨hcs, _⟩ | ⟨a, len, cap, zs, hcs, _, hl, hm, hz, _, hc, hw⟩
  · simp only [List.cons.injEq, and_true] at hcs
    subst hcs
    exact ⟨[], .inl ⟨rfl, none, 0, rfl, fun _ => rfl⟩, by decide⟩
  · simp only [List.cons.injEq, and_true] at hcs
    subst hcs
    simp only [if_true] at hz
    exact ⟨_, HB.of_row hl hm hz (fun i hi => hc i (by omega)) hw, by have := toBytes_len zs len; unfold maxLen at hm; omega⟩

end

end Go.Proofs.Ytjohckgdbbhpdaa
