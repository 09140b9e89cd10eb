/- OracleBridge: for any master key and any asks, the statement's function answers true and leaves its arguments as they were. No condition. -/
import Derived.Test.YtefhjjjjbkkedaaRG
import Derived.Test.YtefhjjjjbkkedaaRC
import Derived.Test.YtefhjjjjbkkedaaQS
import Derived.Test.YtefhjjjjbkkedaaRows
import Derived.WalkKit
import Derived.ProofKit
import Derived.OpenShut
import Derived.Carry
set_option linter.unusedVariables false
set_option linter.unusedSimpArgs false
namespace Go.Proofs.Ytefhjjjjbkkedaa.oracleBridge
open Go.ChangeShapes Go.WideShapes Go.ChangeAt Go.RowKit
theorem own : ownKnob Try.prog.godebug = none := by kernel_rfl
theorem laidOut : laidOutB Try.prog = true := by kernel_rfl
set_option maxRecDepth 100000 in
theorem okWide_agg {W : World} {r : Reach} {b0 : Nat} {k e : TypeId} {n : Nat} {v : Value} (hu : Try.prog.underlying k = some (.array n e)) (hk : Try.prog.cellsOf k = n) (h : Value.okWide Try.prog W r b0 k v) : ∃ xs : Array Value, v = .agg xs ∧ xs.size = n := by
  simp only [Value.okWide, hu] at h
  obtain ⟨cs, h1, h2, _⟩ := h
  exact ⟨cs, h1, by rw [h2, hk]⟩
set_option maxRecDepth 100000 in
theorem open_octets {H : Type} {enc : TypeId × Value → H} {W : World} {r : Reach} {b0 base : Nat} {held : Bool} {k : TypeId} {n : Nat} {v : Value} {d : DataW H} {ps : List MemPlace} (hu : Try.prog.underlying k = some (.array n 5)) (hk : Try.prog.cellsOf k = n)
    (ho : Value.okWide Try.prog W r b0 k v) (hd : DataW.Trod enc Try.prog W base (fun _ => true) held k v d ps) : ∃ bs : List UInt8, v = .agg (bs.map B8).toArray ∧ bs.length = n := by
  obtain ⟨xs, rfl, hn⟩ := okWide_agg hu hk ho
  obtain ⟨fuel, hf⟩ := hd
  obtain ⟨bs, e1, e2⟩ := R5.open_octc hu hk (by kernel_rfl) hf
  refine ⟨bs, ?_, e2⟩
  have e3 : xs.toList = bs.map B8 := e1
  rw [← e3]
theorem walk (m : List UInt8) (v : Value) (ls : List R5.Ak) (w : World) (hml : m.length = 32) (hl : ls.length ≤ 9223372036854775807) (h : R5.HAs w v ls) : Calls Try.prog 3 #[.agg (m.map B8).toArray, v] w fun e w' => e = .returned (.bool true) ∧ Below w.heap.size w w' := R5.oracleBridge.walk m v ls w hml hl h
set_option maxRecDepth 100000 in
theorem lifted (os : Os) (started : os.Started) (H : Type) (enc : TypeId × Value → H) :
    ReturnsInHanded {} Try.checked os 3 .any (Rows.oracleBridgeSpec.pre6 enc Try.prog Try.f3 Rows.oracleBridgeRow.domain false) (Rows.oracleBridgeSpec.post enc Try.prog Try.f3 false true false false) := by
  refine returnsInHanded_of_change (C := Try.checked) own started (by kernel_rfl) Try.func3
    (ChangeSpec.witness6 (enc := enc) (C := Try.checked) false ⟨#[], #[.agg (Array.replicate 32 (.int .u8 0)), .slice none 0 0], []⟩ 8 (by kernel_rfl) (by kernel_rfl) (by kernel_rfl) (by kernel_rfl)) ?_
  intro W base args ds gs before hval0 hW hcnd _
  have hval : ∀ (j : Nat) t v, Try.f3.params[j]? = some t → args[j]? = some v → Value.okWide Try.prog W .any base t v := hval0
  have hW' := hW
  obtain ⟨p, q, hA0, hV, rfl, hfz, hnd⟩ := hW
  have hA : DataW.TrodAll enc Try.prog W 0 (fun _ => true) true Try.f3.params.toList args.toList ds p := hA0
  rw [Try.params3] at hA hval
  obtain ⟨v0, vs0, d0, ds0, p0, q0, hargs, rfl, rfl, h0, r0⟩ := trodAll_cons hA
  obtain ⟨v1, vs1, d1, ds1, p1, q1, rfl, rfl, rfl, h1, r1⟩ := trodAll_cons r0
  obtain ⟨rfl, rfl, rfl⟩ := trodAll_nil r1
  obtain rfl : args = #[v0, v1] := by cases args; simp_all
  obtain ⟨rfl, rfl⟩ := trodVars_none hV
  have k0 := h0
  have lt0 : ∀ x ∈ p0, x.block < W.heap.size := by obtain ⟨m, hm⟩ := k0; exact DataW.trod_lt m _ _ _ hm
  obtain ⟨l0, rfl, hl0⟩ := open_octets Try.underlying23 (by kernel_rfl) (hval 0 23 v0 rfl rfl) h0
  obtain ⟨a1, len1, cap1, rfl⟩ := okWide_slice Try.underlying24 (hval 1 24 v1 rfl rfl)
  have k1 := h1
  have lt1 : ∀ x ∈ p1, x.block < W.heap.size := by obtain ⟨m, hm⟩ := k1; exact DataW.trod_lt m _ _ _ hm
  obtain ⟨l1, hl1, hm1⟩ : ∃ ls, R5.HAs W (.slice a1 len1 cap1) ls ∧ ls.length ≤ 9223372036854775807 := by obtain ⟨fuel, hf⟩ := h1; exact R5.open_asks hf
  clear hA0 hval0
  refine (walk l0 _ l1 W hl0 hm1 hl1).mono fun e W' ⟨he, bel⟩ => ?_
  subst he
  exact ⟨_, rfl, _, _, _, [], _, [], hW', trodAll_mk1 (shut_bool Try.underlying4 _), (trodAll_cons_mk (Below.trod laidOut (by kernel_rfl) (of_decide_eq_true (by kernel_rfl)) k0 bel lt0) (trodAll_cons_mk (Below.trod laidOut (by kernel_rfl) (of_decide_eq_true (by kernel_rfl)) k1 bel lt1) trodAll_mk0)), rfl, bel.frame _, fun h => by cases h⟩

theorem over : Rows.oracleBridgeRow.holds Try.pinned (OpenSpec.ofChange Rows.oracleBridgeSpec) :=
  OpenClaim.holds_of_wide 3 Try.f3 rfl rfl rfl rfl rfl rfl rfl ⟨rfl, rfl, rfl, rfl, rfl⟩ rfl rfl rfl rfl rfl (by kernel_rfl) Try.func3 (by kernel_rfl)
    (of_decide_eq_true (by kernel_rfl)) (by unfold Func.isWrapper; first | (rw [if_pos (by decide +kernel)]; kernel_rfl) | (rw [if_neg (by decide +kernel)]; exact ⟨rfl, rfl⟩))
    (fun os started H enc _ => lifted os started H enc)

end Go.Proofs.Ytefhjjjjbkkedaa.oracleBridge
namespace Go.Proofs.Ytefhjjjjbkkedaa
theorem oracleBridge_holds : Rows.OracleBridgeSaid := oracleBridge.over
#print axioms oracleBridge_holds
end Go.Proofs.Ytefhjjjjbkkedaa
