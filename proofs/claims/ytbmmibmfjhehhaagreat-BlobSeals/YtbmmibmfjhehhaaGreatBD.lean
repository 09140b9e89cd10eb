/- blob: what refuses; what is asked of a page and a counter; a page's stream; Seal and Open, over any Stream. -/
import Derived.Test.YtbmmibmfjhehhaaGreatBC
import Derived.Test.YtbmmibmfjhehhaaGreatWn
import Derived.Deep.CutRange
set_option linter.unusedVariables false
set_option linter.unusedSimpArgs false
namespace Go.Proofs.YtbmmibmfjhehhaaGreat.BC
open Go.RowKit

def mayB (pg c : Int) : Bool := decide (0 ≤ pg ∧ pg < 128 ∧ c ≤ 4294967296)
def fltC (nn : Bool) (pg c : Int) : Int := if nn = true then 1 else if mayB pg c = true then 0 else 2
set_option maxHeartbeats 1000000 in
set_option maxRecDepth 100000 in
theorem fault_of (pv : Value) (pg c : Int) (nn : Bool) (w : World) (hN : Calls Tryz.prog 62 #[pv] w fun e w' => e = .returned (.bool nn) ∧ Below w.heap.size w w') :
    Calls Tryz.prog 44 #[pv, .int .i64 pg, .int .u64 c] w fun e w' => e = .returned (.int .i64 (fltC nn pg c)) ∧ Below w.heap.size w w' := by
  cases nn with
  | true =>
    have hv : fltC true pg c = 1 := rfl
    rw [hv]
    clear hv
    go_enter Tryz.func44, Tryz.ntmps44
    go_wp2_with fail
    refine Calls.mono hN ?_
    rintro e w1 ⟨rfl, hb⟩
    clear hN
    go_wp2
    go_ret
    exact ⟨rfl, hb⟩
  | false =>
    by_cases h1 : pg < 0
    · have hv : fltC false pg c = 2 := by unfold fltC mayB; rw [if_neg (by decide), decide_eq_false (by omega)]; rfl
      rw [hv]
      clear hv
      go_enter Tryz.func44, Tryz.ntmps44
      go_wp2_with fail
      refine Calls.mono hN ?_
      rintro e w1 ⟨rfl, hb⟩
      clear hN
      go_wp2
      go_ret
      exact ⟨rfl, hb⟩
    · by_cases h2 : 128 ≤ pg
      · have hv : fltC false pg c = 2 := by unfold fltC mayB; rw [if_neg (by decide), decide_eq_false (by omega)]; rfl
        rw [hv]
        clear hv
        go_enter Tryz.func44, Tryz.ntmps44
        go_wp2_with fail
        refine Calls.mono hN ?_
        rintro e w1 ⟨rfl, hb⟩
        clear hN
        go_wp2
        go_ret
        exact ⟨rfl, hb⟩
      · by_cases h3 : 4294967296 < c
        · have hv : fltC false pg c = 2 := by unfold fltC mayB; rw [if_neg (by decide), decide_eq_false (by omega)]; rfl
          rw [hv]
          clear hv
          go_enter Tryz.func44, Tryz.ntmps44
          go_wp2_with fail
          refine Calls.mono hN ?_
          rintro e w1 ⟨rfl, hb⟩
          clear hN
          go_wp2
          go_ret
          exact ⟨rfl, hb⟩
        · have hv : fltC false pg c = 0 := by unfold fltC mayB; rw [if_neg (by decide), decide_eq_true (by omega)]; rfl
          rw [hv]
          clear hv
          go_enter Tryz.func44, Tryz.ntmps44
          go_wp2_with fail
          refine Calls.mono hN ?_
          rintro e w1 ⟨rfl, hb⟩
          clear hN
          go_wp2
          go_ret
          exact ⟨rfl, hb⟩
theorem fault_no (og mb : Nat) (pg c : Int) (w : World) (hc : w.cell? ⟨og, 35, none⟩ = some (.map (some mb))) : Calls Tryz.prog 44 #[.pointer (some ⟨og, 0, none⟩), .int .i64 pg, .int .u64 c] w fun e w' => e = .returned (.int .i64 (if mayB pg c = true then 0 else 2)) ∧ Below w.heap.size w w' := fault_of _ pg c false w (noOracle_no og mb w hc)
theorem fault_nil (pg c : Int) (w : World) : Calls Tryz.prog 44 #[.pointer none, .int .i64 pg, .int .u64 c] w fun e w' => e = .returned (.int .i64 1) ∧ Below w.heap.size w w' := fault_of _ pg c true w (noOracle_nil w)

def Pass (T : Value → Int → World → World → Prop) (w : World) (e : Ending) (w' : World) : Prop :=
  ∃ W a n, Below w.heap.size w W ∧ e = .returned (.tuple #[a, .int .i64 n]) ∧ T a n W w'
theorem Pass.ahead {T : Value → Int → World → World → Prop} {w X : World} {e : Ending} {w' : World} (hb : Below w.heap.size w X) (h : Pass T X e w') : Pass T w e w' := by
  obtain ⟨W, a, n, h1, h2, h3⟩ := h
  exact ⟨W, a, n, hb.trans (h1.mono hb.size), h2, h3⟩
set_option maxHeartbeats 1000000 in
set_option maxRecDepth 100000 in
theorem askedB_no (pv fv : Value) (pg c x : Int) (w : World) (hx : x ≠ 0) (hF : Calls Tryz.prog 44 #[pv, .int .i64 pg, .int .u64 c] w fun e w' => e = .returned (.int .i64 x) ∧ Below w.heap.size w w') :
    Calls Tryz.prog 35 #[pv, .int .i64 pg, .int .u64 c, fv] w fun e w' => e = .returned (.tuple #[.slice none 0 0, .int .i64 x]) ∧ Below w.heap.size w w' := by
  have hx2 : (x == 0) = false := by rw [beq_eq_false_iff_ne]; exact hx
  go_enter Tryz.func35, Tryz.ntmps35
  go_wp2_with fail
  refine Calls.mono hF ?_
  rintro e w1 ⟨rfl, hb⟩
  clear hF
  go_wp2
  go_ret2
  exact ⟨rfl, hb⟩
set_option maxHeartbeats 1000000 in
set_option maxRecDepth 100000 in
theorem askedB_ok (T : Value → Int → World → World → Prop) (pv : Value) (p c : Nat) (b1 b2 : Nat) (w : World) (hp : p < 128) (hc : c ≤ 4294967296) (hF : Calls Tryz.prog 44 #[pv, .int .i64 (p : Int), .int .u64 (c : Int)] w fun e w' => e = .returned (.int .i64 0) ∧ Below w.heap.size w w')
    (hcl : ∀ W p1 c1 p2 c2, Below w.heap.size w W → HB W (.slice p1 8 c1) (W1.le 8 p) → HB W (.slice p2 8 c2) (W1.le 8 c) → Calls Tryz.prog 36 #[.slice p1 8 c1, .slice p2 8 c2, .pointer (some ⟨b1, 0, none⟩), .pointer (some ⟨b2, 0, none⟩)] W fun e w' => Pass T W e w') :
    Calls Tryz.prog 35 #[pv, .int .i64 (p : Int), .int .u64 (c : Int), .func (.func 36) #[] #[.pointer (some ⟨b1, 0, none⟩), .pointer (some ⟨b2, 0, none⟩)]] w fun e w' => Pass T w e w' := by
  have HPUT : Hid (∀ (n : Nat) W, n < 18446744073709551616 → Calls Tryz.prog 45 #[.int .u64 (n : Int), .int .i64 8] W fun e w' => e = .returned (.tuple #[.slice (some ⟨W.heap.size, 0, none⟩) 8 8, .int .i64 0]) ∧ FB W.heap.size w' (.slice (some ⟨W.heap.size, 0, none⟩) 8 8) (W1.le 8 n) ∧ Below W.heap.size W w') := fun n W hn => put_ok n 8 W (by decide) (by decide) hn (by omega)
  have hu : IntKind.u64.wrap (p : Int) = (p : Int) := by rw [W1.wrap_u64]; omega
  have HCL : Hid (∀ W p1 c1 p2 c2, Below w.heap.size w W → HB W (.slice p1 8 c1) (W1.le 8 p) → HB W (.slice p2 8 c2) (W1.le 8 c) → Calls Tryz.prog 36 #[.slice p1 8 c1, .slice p2 8 c2, .pointer (some ⟨b1, 0, none⟩), .pointer (some ⟨b2, 0, none⟩)] W fun e w' => Pass T W e w') := hcl
  have HP : Hid (p < 18446744073709551616) := (by omega : p < 18446744073709551616)
  have HC : Hid (c < 18446744073709551616) := (by omega : c < 18446744073709551616)
  clear hcl hp hc
  go_enter Tryz.func35, Tryz.ntmps35
  go_wp2_with fail
  refine Calls.mono hF ?_
  rintro e w1 ⟨rfl, hb⟩
  have HB1 : Hid (Below w.heap.size w w1) := hb
  clear hF hb
  go_wp2_with fail
  refine Calls.mono (HPUT.out p w1 HP.out) ?_
  rintro e w2 ⟨rfl, hf2, hb2⟩
  have HF2 : Hid (HB w2 (.slice (some ⟨w1.heap.size, 0, none⟩) 8 8) (W1.le 8 p)) := hf2.hb
  have HB2 : Hid (Below w.heap.size w w2) := HB1.out.trans (hb2.mono HB1.out.size)
  clear hf2 hb2 HB1
  generalize w1.heap.size = n1 at *
  go_wp2_with fail
  refine Calls.mono (HPUT.out c w2 HC.out) ?_
  rintro e w3 ⟨rfl, hf3, hb3⟩
  have HF3 : Hid (HB w3 (.slice (some ⟨w2.heap.size, 0, none⟩) 8 8) (W1.le 8 c)) := hf3.hb
  have HF2b : Hid (HB w3 (.slice (some ⟨n1, 0, none⟩) 8 8) (W1.le 8 p)) := HF2.out.below hb3
  have HB3 : Hid (Below w.heap.size w w3) := HB2.out.trans (hb3.mono HB2.out.size)
  clear hf3 hb3 HF2 HB2
  generalize w2.heap.size = n2 at *
  go_wp2_with fail
  refine Calls.mono (HCL.out w3 _ _ _ _ HB3.out HF2b.out HF3.out) ?_
  intro e w4 hP
  obtain ⟨W, a, n, h1, rfl, h3⟩ := hP
  have HEND : Hid (Pass T w (.returned (.tuple #[a, .int .i64 n])) w4) := ⟨W, a, n, HB3.out.trans (h1.mono HB3.out.size), rfl, h3⟩
  clear h1 h3 HB3 HF2b HF3
  go_wp2
  go_ret2
  exact HEND.out
end Go.Proofs.YtbmmibmfjhehhaaGreat.BC
