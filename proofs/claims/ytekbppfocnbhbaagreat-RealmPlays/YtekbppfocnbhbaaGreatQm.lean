/- RealmPlays: for any draws and any list of acts, the statement's function answers true and leaves its arguments as they were. No condition. -/
import Derived.Test.YtekbppfocnbhbaaGreatRt
import Derived.Test.YtekbppfocnbhbaaGreatQj
import Derived.Test.YtekbppfocnbhbaaGreatRows
import Derived.ChangeOld
import Derived.ProofKit
import Derived.OpenShut
set_option linter.unusedVariables false
set_option linter.unusedSimpArgs false
namespace Go.Proofs.YtekbppfocnbhbaaGreat.R5
open scoped Classical
open Go.ChangeShapes Go.WideShapes Go.ChangeAt Go.RowKit

section
variable {H : Type} {enc : TypeId × Value → H} {w : World} {base : Nat} {held : Bool}
set_option maxRecDepth 100000 in
theorem open_digs {a : Option Addr} {len cap : Nat} {fuel : Nat} {x : DataW H × List MemPlace} (h : DataW.trod enc Tryz.prog w base (fun _ => true) held fuel 22 [.slice a len cap] = some x) : ∃ ds, HDs w (.slice a len cap) ds ∧ ds.length ≤ 9223372036854775807 ∧ (a = none → cap = 0) := by
  have hcell : Tryz.prog.cellsOf 33 = 32 := by kernel_rfl
  rcases Go.Deep.open_slice Tryz.underlying22 h with ⟨hcs, _⟩ | ⟨ad, len', cap', m, n, D, Pl, hcs, hb, hl, hm, hmm, _, hr⟩
  · simp only [List.cons.injEq, and_true, Value.slice.injEq] at hcs
    obtain ⟨rfl, rfl, rfl⟩ := hcs
    exact ⟨[], ⟨fun d hd => by simp at hd, none, 0, rfl, fun i hi => by simp at hi⟩, by decide, fun _ => rfl⟩
  · simp only [List.cons.injEq, and_true, Value.slice.injEq] at hcs
    obtain ⟨rfl, rfl, rfl⟩ := hcs
    simp only [if_true] at hmm
    rw [hcell] at hr
    obtain ⟨g, o, sp⟩ := ad
    have hsp : 0 < len → sp = none := fun h0 => by
      obtain ⟨cs', h1, _⟩ := hr 0 (by omega)
      exact XC.spot_none (by omega) h1
    obtain ⟨ds, h1, h2⟩ := XC.choose_nat (n := len) (p := fun i (d : List UInt8) => w.rangeAt g (o + i * 32) (d.map B8) ∧ d.length = 32) (fun i hi => by
      obtain ⟨cs', h1, h2⟩ := hr i (by omega)
      obtain ⟨l1, p1⟩ := PC.open_arr Tryz.underlying33 Tryz.underlying5 hcell (by kernel_rfl) h2
      obtain ⟨bs, e1⟩ := PC.cells_u8 _ p1
      have e2 : bs.length = 32 := by rw [e1, List.length_map] at l1; exact l1
      have hs := hsp (by omega)
      subst hs
      have hadd : (⟨g, o, none⟩ : Addr).add (i * 32) = ⟨g, o + i * 32, none⟩ := by unfold Addr.add; split <;> simp_all
      rw [hadd] at h1
      exact ⟨bs, by rw [← e1]; exact XC.cells_range h1, e2⟩)
    refine ⟨ds, ⟨fun d hd => ?_, some ⟨g, o, sp⟩, cap, by rw [h1], fun i hi => ⟨g, o, by rw [hsp (by omega)], ?_⟩⟩, by unfold maxLen at hm; omega, fun h => by cases h⟩
    · obtain ⟨i, hi⟩ := List.getElem?_of_mem hd
      exact (h2 i d hi).2
    · rw [List.getD, List.getElem?_eq_getElem hi]
      exact (h2 i _ (List.getElem?_eq_getElem hi)).1
end
end Go.Proofs.YtekbppfocnbhbaaGreat.R5

namespace Go.Proofs.YtekbppfocnbhbaaGreat.realmPlays
open Go.ChangeShapes Go.WideShapes Go.ChangeAt Go.RowKit
theorem own : ownKnob Tryz.prog.godebug = none := by kernel_rfl
theorem laidOut : laidOutB Tryz.prog = true := by kernel_rfl
set_option maxHeartbeats 1000000 in
set_option maxRecDepth 100000 in
theorem much (p : Option Addr) (N cap : Nat) (v : Option Addr) (M cap1 : Nat) (w : World) (h : 60 < M ∨ 100 < N) : Calls Tryz.prog 3 #[.slice p N cap, .slice v M cap1] w fun e w' => e = .returned (.bool true) ∧ Below w.heap.size w w' := by
  by_cases h1 : 60 < M
  · have hI : (60 : Int) < (M : Int) := by omega
    clear h h1
    go_enter Tryz.func3, Tryz.ntmps3
    go_wp2_with fail
    refine Calls.mono (XC.known_any w) ?_
    rintro e w1 ⟨rfl, hb⟩
    go_wp2
    go_ret
    exact ⟨rfl, hb⟩
  · have hI : ¬ (60 : Int) < (M : Int) := by omega
    have hJ : (100 : Int) < (N : Int) := by omega
    clear h h1
    go_enter Tryz.func3, Tryz.ntmps3
    go_wp2_with fail
    refine Calls.mono (XC.known_any w) ?_
    rintro e w1 ⟨rfl, hb⟩
    go_wp2
    go_ret
    exact ⟨rfl, hb⟩
theorem walk (p : Option Addr) (N cap : Nat) (ds : List (List UInt8)) (v1 : Value) (ls : List XC.Ac) (w : World) (hdl : ds.length ≤ 9223372036854775807) (hpc : p = none → cap = 0) (hD : R5.HDs w (.slice p N cap) ds) (hl1 : ls.length ≤ 9223372036854775807) (h1 : XC.HAc w v1 ls) :
    Calls Tryz.prog 3 #[.slice p N cap, v1] w fun e w' => e = .returned (.bool true) ∧ Below w.heap.size w w' := by
  have hNd : N = ds.length := by obtain ⟨_, p', c', e, _⟩ := hD; simp only [Value.slice.injEq] at e; exact e.2.1
  subst hNd
  by_cases h2 : 60 < ls.length ∨ 100 < ds.length
  · obtain ⟨pl, cap1, rfl, _⟩ := h1
    exact much p ds.length cap pl ls.length cap1 w h2
  · exact XC.plays_walk p cap ds v1 ls w (by omega) (by omega) hpc hD h1
set_option maxRecDepth 100000 in
theorem lifted (os : Os) (started : os.Started) (H : Type) (enc : TypeId × Value → H) :
    ReturnsInHanded {} Tryz.checked os 3 .any (Rows.realmPlaysSpec.pre6 enc Tryz.prog Tryz.f3 Rows.realmPlaysRow.domain false) (Rows.realmPlaysSpec.post enc Tryz.prog Tryz.f3 false true false false) := by
  refine returnsInHanded_of_change (C := Tryz.checked) own started (by kernel_rfl) Tryz.func3
    (ChangeSpec.witness6 (enc := enc) (C := Tryz.checked) false ⟨#[], #[.slice none 0 0, .slice none 0 0], []⟩ 8 (by kernel_rfl) (by kernel_rfl) (by kernel_rfl) (by kernel_rfl)) ?_
  intro W base args ds gs before hval0 hW hcnd _
  have hval : ∀ (j : Nat) t v, Tryz.f3.params[j]? = some t → args[j]? = some v → Value.okWide Tryz.prog W .any base t v := hval0
  have hW' := hW
  obtain ⟨p, q, hA0, hV, rfl, hfz, hnd⟩ := hW
  have hA : DataW.TrodAll enc Tryz.prog W 0 (fun _ => true) true Tryz.f3.params.toList args.toList ds p := hA0
  rw [Tryz.params3] at hA hval
  obtain ⟨v0, vs0, d0, ds0, p0, q0, hargs, rfl, rfl, h0, r0⟩ := trodAll_cons hA
  obtain ⟨v1, vs1, d1, ds1, p1, q1, rfl, rfl, rfl, h1, r1⟩ := trodAll_cons r0
  obtain ⟨rfl, rfl, rfl⟩ := trodAll_nil r1
  obtain rfl : args = #[v0, v1] := by cases args; simp_all
  obtain ⟨rfl, rfl⟩ := trodVars_none hV
  obtain ⟨a0, len0, cap0, rfl⟩ := okWide_slice Tryz.underlying22 (hval 0 22 v0 rfl rfl)
  have k0 := h0
  have lt0 : ∀ x ∈ p0, x.block < W.heap.size := by obtain ⟨m, hm⟩ := k0; exact DataW.trod_lt m _ _ _ hm
  obtain ⟨l0, hl0, hm0, hn0⟩ : ∃ ds, R5.HDs W (.slice a0 len0 cap0) ds ∧ ds.length ≤ 9223372036854775807 ∧ (a0 = none → cap0 = 0) := by obtain ⟨fuel, hf⟩ := h0; exact R5.open_digs hf
  obtain ⟨a1, len1, cap1, rfl⟩ := okWide_slice Tryz.underlying23 (hval 1 23 v1 rfl rfl)
  have k1 := h1
  have lt1 : ∀ x ∈ p1, x.block < W.heap.size := by obtain ⟨m, hm⟩ := k1; exact DataW.trod_lt m _ _ _ hm
  obtain ⟨l1, hl1, hm1⟩ : ∃ ls, XC.HAc W (.slice a1 len1 cap1) ls ∧ ls.length ≤ 9223372036854775807 := by obtain ⟨fuel, hf⟩ := h1; exact XC.open_acts hf
  clear hA0 hval0
  refine (walk _ _ _ l0 _ l1 W hm0 hn0 hl0 hm1 hl1).mono fun e W' ⟨he, bel⟩ => ?_
  subst he
  exact ⟨_, rfl, _, _, _, [], _, [], hW', trodAll_mk1 (shut_bool Tryz.underlying4 _), (trodAll_cons_mk (Below.trod laidOut (by kernel_rfl) (of_decide_eq_true (by kernel_rfl)) k0 bel lt0) (trodAll_cons_mk (Below.trod laidOut (by kernel_rfl) (of_decide_eq_true (by kernel_rfl)) k1 bel lt1) trodAll_mk0)), rfl, bel.frame _, fun h => by cases h⟩

theorem over : Rows.realmPlaysRow.holds Tryz.pinned (OpenSpec.ofChange Rows.realmPlaysSpec) :=
  OpenClaim.holds_of_wide 3 Tryz.f3 rfl rfl rfl rfl rfl rfl rfl ⟨rfl, rfl, rfl, rfl, rfl⟩ rfl rfl rfl rfl rfl (by kernel_rfl) Tryz.func3 (by kernel_rfl)
    (of_decide_eq_true (by kernel_rfl)) (by unfold Func.isWrapper; first | (rw [if_pos (by decide +kernel)]; kernel_rfl) | (rw [if_neg (by decide +kernel)]; exact ⟨rfl, rfl⟩))
    (fun os started H enc _ => lifted os started H enc)

end Go.Proofs.YtekbppfocnbhbaaGreat.realmPlays
namespace Go.Proofs.YtekbppfocnbhbaaGreat
theorem realmPlays_holds : Rows.RealmPlaysSaid := realmPlays.over
#print axioms realmPlays_holds
end Go.Proofs.YtekbppfocnbhbaaGreat
