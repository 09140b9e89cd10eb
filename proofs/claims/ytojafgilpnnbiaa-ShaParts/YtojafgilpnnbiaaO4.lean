/- Arrays of words and of bytes that came in. -/
import Derived.Test.YtojafgilpnnbiaaW4
import Derived.ProofKit
import Derived.OpenShut
set_option linter.unusedVariables false
set_option linter.unusedSimpArgs false
namespace Go.Proofs.Ytojafgilpnnbiaa
open Go.ChangeShapes Go.WideShapes Go.ChangeAt Go.RowKit

section
variable {H : Type} {enc : TypeId × Value → H} {P : Program} {k e : TypeId} {n : Nat} {q : IntKind} {W : World} {base : Nat} {sp : Nat → Bool} {held : Bool}

theorem mapM_ints (he : P.underlying e = some (.int q)) {m : Nat} {cs : List Value} {c : Nat} : ∀ (L : List Nat) (ys : List (DataW H × List MemPlace)),
    L.mapM (fun i => DataW.trod enc P W base sp held m e ((cs.drop (i * c)).take c)) = some ys → ∀ i ∈ L, ∃ z, (cs.drop (i * c)).take c = [.int q z] ∧ (Lit.int q z).wf = true
  | [], ys, h => by simp
  | i :: L, ys, h => by
    rw [List.mapM_cons] at h
    simp only [bind, Option.bind_eq_some_iff, pure, Option.some.injEq] at h
    obtain ⟨y, hy, ys', hys, rfl⟩ := h
    obtain ⟨a, ea, _, wa⟩ := DataW.trod_int he hy
    intro j hj
    rcases List.mem_cons.1 hj with rfl | hj
    · exact ⟨a, ea, wa⟩
    · exact mapM_ints he L ys' hys j hj

theorem open_row (hu : P.underlying k = some (.array n e)) (he : P.underlying e = some (.int q)) (hone : P.cellsOf e = 1) (hk : P.cellsOf k = n) {xs : Array Value} {d : DataW H} {ps : List MemPlace} (hn : xs.size = n)
    (hd : DataW.Trod enc P W base sp held k (.agg xs) d ps) : ∀ i (hi : i < n), ∃ z, xs[i]'(by omega) = .int q z ∧ (Lit.int q z).wf = true := by
  obtain ⟨fuel, hf⟩ := hd
  cases fuel with
  | zero => simp [DataW.trod] at hf
  | succ m =>
    rw [DataW.trod_step] at hf
    unfold DataW.trodStep at hf
    simp only [hu, Value.cells] at hf
    rw [if_pos (by rw [hk]; simpa using hn)] at hf
    simp only [Option.map_eq_some_iff] at hf
    obtain ⟨ys, hy, e1⟩ := hf
    have := mapM_ints he _ ys hy
    intro i hi
    obtain ⟨z, h1, h2⟩ := this i (by simpa using hi)
    refine ⟨z, ?_, h2⟩
    rw [hone, Nat.mul_one] at h1
    have hl : i < xs.toList.length := by simpa [hn] using hi
    rw [List.drop_eq_getElem_cons hl] at h1
    simpa using h1
end

theorem okWide_agg {W : World} {r : Reach} {b0 : Nat} {k e : TypeId} {n : Nat} {v : Value} (hu : Try.prog.underlying k = some (.array n e)) (hk : Try.prog.cellsOf k = n) (h : Value.okWide Try.prog W r b0 k v) : ∃ xs : Array Value, v = .agg xs ∧ xs.size = n := by
  simp only [Value.okWide, hu] at h
  obtain ⟨cs, h1, h2, _⟩ := h
  exact ⟨cs, h1, by rw [h2, hk]⟩

theorem open_words {H : Type} {enc : TypeId × Value → H} {W : World} {r : Reach} {b0 base : Nat} {sp : Nat → Bool} {held : Bool} {k : TypeId} {n : Nat} {v : Value} {d : DataW H} {ps : List MemPlace} (hu : Try.prog.underlying k = some (.array n 30)) (hk : Try.prog.cellsOf k = n)
    (ho : Value.okWide Try.prog W r b0 k v) (hd : DataW.Trod enc Try.prog W base sp held k v d ps) : ∃ hs : List UInt32, v = .agg (hs.map W32).toArray ∧ hs.length = n := by
  obtain ⟨xs, rfl, hn⟩ := okWide_agg hu hk ho
  have h := open_row hu Try.underlying30 (by kernel_rfl) hk hn hd
  refine ⟨xs.toList.map (fun v => match v with | .int _ z => UInt32.ofNat z.toNat | _ => 0), ?_, by simpa using hn⟩
  congr 1
  apply Array.ext
  · simp
  · intro i h1 h2
    obtain ⟨z, e, hw⟩ := h i (by omega)
    have hb := bounds_u32 hw
    have : U (UInt32.ofNat z.toNat) = z := by unfold U; simp; omega
    simp [e, W32, this]

theorem open_octets {H : Type} {enc : TypeId × Value → H} {W : World} {r : Reach} {b0 base : Nat} {sp : Nat → Bool} {held : Bool} {k : TypeId} {n : Nat} {v : Value} {d : DataW H} {ps : List MemPlace} (hu : Try.prog.underlying k = some (.array n 5)) (hk : Try.prog.cellsOf k = n)
    (ho : Value.okWide Try.prog W r b0 k v) (hd : DataW.Trod enc Try.prog W base sp held k v d ps) : ∃ bs : List UInt8, v = .agg (bs.map B8).toArray ∧ bs.length = n := by
  obtain ⟨xs, rfl, hn⟩ := okWide_agg hu hk ho
  have h := open_row hu Try.underlying5 (by kernel_rfl) hk hn hd
  refine ⟨xs.toList.map (fun v => match v with | .int _ z => UInt8.ofNat z.toNat | _ => 0), ?_, by simpa using hn⟩
  congr 1
  apply Array.ext
  · simp
  · intro i h1 h2
    obtain ⟨z, e, hw⟩ := h i (by omega)
    have hb := bounds_u8 hw
    have : ((UInt8.ofNat z.toNat).toNat : Int) = z := by simp; omega
    simp [e, B8]; omega

end Go.Proofs.Ytojafgilpnnbiaa
