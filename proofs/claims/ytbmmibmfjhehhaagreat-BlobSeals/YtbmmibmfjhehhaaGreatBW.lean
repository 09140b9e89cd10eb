/- blob: the document's None and Leaf; the logs. -/
import Derived.Test.YtbmmibmfjhehhaaGreatBS
import Derived.Test.YtbmmibmfjhehhaaGreatBV
set_option linter.unusedVariables false
set_option linter.unusedSimpArgs false
namespace Go.Proofs.YtbmmibmfjhehhaaGreat.BC
open Go.RowKit

theorem rmay_any (pg c : Int) (w : World) : Calls Tryz.prog 9 #[.int .i64 pg, .int .u64 c] w fun e w' => e = .returned (.bool (mayB pg c)) ∧ w' = w := by
  by_cases h1 : 0 ≤ pg
  · by_cases h2 : pg < 128
    · by_cases h3 : c ≤ 4294967296
      · have hv : mayB pg c = true := decide_eq_true ⟨h1, h2, h3⟩
        rw [hv]
        clear hv
        go_enter Tryz.func9, Tryz.ntmps9
        go_wp2
        go_ret
        exact ⟨rfl, rfl⟩
      · have hv : mayB pg c = false := decide_eq_false (fun h => h3 h.2.2)
        rw [hv]
        clear hv
        go_enter Tryz.func9, Tryz.ntmps9
        go_wp2
        go_ret
        exact ⟨rfl, rfl⟩
    · have hv : mayB pg c = false := decide_eq_false (fun h => h2 h.2.1)
      rw [hv]
      clear hv
      go_enter Tryz.func9, Tryz.ntmps9
      go_wp2
      go_ret
      exact ⟨rfl, rfl⟩
  · have hv : mayB pg c = false := decide_eq_false (fun h => h1 h.1)
    rw [hv]
    clear hv
    go_enter Tryz.func9, Tryz.ntmps9
    go_wp2
    go_ret
    exact ⟨rfl, rfl⟩
theorem mayB_nat {pg c : Int} (h : mayB pg c = true) (hc : 0 ≤ c) : ∃ p n : Nat, pg = (p : Int) ∧ c = (n : Int) ∧ p < 128 ∧ n ≤ 4294967296 := by
  have := of_decide_eq_true h
  exact ⟨pg.toNat, c.toNat, by omega, by omega, by omega, by omega⟩
theorem infoMo (L : List Value) (h : L.length = 34) : (Tryz.prog.info? 26).map (·.size) = some L.length := by rw [h]; kernel_rfl
theorem moL_len (c : Mo) (dv : Value) (h : c.m.length = 32) : (moL c dv).length = 34 := by unfold moL; simp [h]
end Go.Proofs.YtbmmibmfjhehhaaGreat.BC

namespace Go.Proofs.YtbmmibmfjhehhaaGreat.BC
open Go.RowKit

set_option maxHeartbeats 1000000 in
set_option maxRecDepth 100000 in
theorem rboth_any (p c : Nat) (w : World) (hp : p < 128) (hc : c ≤ 4294967296) : Calls Tryz.prog 25 #[.int .i64 (p : Int), .int .u64 (c : Int)] w fun e w' => ∃ v, e = .returned v ∧ FB w.heap.size w' v (W1.le 8 p ++ W1.le 8 c) ∧ Below w.heap.size w w' := by
  have hu : IntKind.u64.wrap (p : Int) = (p : Int) := by rw [W1.wrap_u64]; omega
  have HP : Hid (∀ W, Calls Tryz.prog 33 #[.int .u64 (p : Int), .int .i64 8] W fun e w' => ∃ v, e = .returned v ∧ FB W.heap.size w' v (W1.le 8 p) ∧ Below W.heap.size W w') := fun W => DP.refPut_any p 8 W (by omega) (by decide)
  have HC : Hid (∀ W, Calls Tryz.prog 33 #[.int .u64 (c : Int), .int .i64 8] W fun e w' => ∃ v, e = .returned v ∧ FB W.heap.size w' v (W1.le 8 c) ∧ Below W.heap.size W w') := fun W => DP.refPut_any c 8 W (by omega) (by decide)
  have HLP : Hid ((W1.le 8 p).length = 8) := W1.le_length 8 p
  have HLC : Hid ((W1.le 8 c).length = 8) := W1.le_length 8 c
  clear hp hc
  generalize W1.le 8 p = lp at *
  generalize W1.le 8 c = lc at *
  go_enter Tryz.func25, Tryz.ntmps25
  go_wp2_with fail
  refine Calls.mono (HP.out _) ?_
  rintro e w1 ⟨v1, rfl, hf1, hb1⟩
  have HF1 : Hid (FB w.heap.size w1 v1 lp) := hf1
  have HB1 : Hid (Below w.heap.size w w1) := hb1
  clear hf1 hb1 HP
  go_wp2_with fail
  refine Calls.mono (HC.out _) ?_
  rintro e w2 ⟨v2, rfl, hf2, hb2⟩
  have HF2 : Hid (HB w2 v2 lc) := hf2.hb
  have HF1b : Hid (FB w.heap.size w2 v1 lp) := R5.fb_below HF1.out hb2
  have HB2 : Hid (Below w.heap.size w w2) := HB1.out.trans (hb2.mono HB1.out.size)
  have HS2 : Hid (w.heap.size ≤ w2.heap.size) := HB2.out.size
  clear hf2 hb2 HC HF1 HB1
  go_wp2_with (at_builtin; (refine DP.wpList_appHB rfl (.tmp 7) (.tmp 9) rfl w.heap.size v1 v2 lp lc rfl rfl HF1b.out HF2.out (by rw [HLP.out, HLC.out]; decide) HS2.out ?_; intro v3 w3 hf3 hg3; have HF3 : Hid (FB w.heap.size w3 v3 (lp ++ lc)) := hf3; have HB3 : Hid (Below w.heap.size w w3) := HB2.out.trans ⟨hg3.os, hg3.tape, hg3.output, hg3.size, fun j hj => hg3.block j (by have := HS2.out; omega) (fun e => by have := (DP.fb_ge HF1b.out j e.symm).1; omega)⟩; clear hf3 hg3))
  go_ret
  exact ⟨v3, rfl, HF3.out, HB3.out⟩
section
variable {B og : Nat} {S : Nat → Prop} {dv lv : Value} {o : R5.Ora} {lds : List Value} {t : TypeId}
end
section
variable {w X Y : World} {og mb rg : Nat} {i : Bool} {m : List UInt8} {D : List (List UInt8)} {L L' R R' : Lg} {rows : Rws}
theorem TB.log (h : TB w og mb rg i m D L R rows X) (hll : L.length < 1000000) :
    Calls Tryz.prog 11 #[.pointer (some ⟨og, 0, none⟩)] X fun e Y => ∃ v, e = .returned v ∧ R5.HLr Y v L ∧ Below X.heap.size X Y := by
  obtain ⟨S, dv, ov, T, dr, lv, lds, h1, h2, h3, h4, h5⟩ := h.ex
  refine (R5.plog_any h1 hll).mono ?_
  rintro e Y ⟨v, ds, rfl, hL, hb⟩
  exact ⟨v, rfl, R5.hlr_of hL.hlg, hb⟩
theorem TB.rlog (h : TB w og mb rg i m D L R rows X) : ∃ lv, X.cell? ⟨rg, 35, none⟩ = some lv ∧ R5.HLr X lv R := by
  obtain ⟨S, dv, ov, T, dr, lv, lds, h1, h2, h3, h4, h5⟩ := h.ex
  refine ⟨lv, ?_, R5.hlr_of h2.log⟩
  rw [cell_of_row _ _ 35 _ _ _ h2.row]; exact R5.oL_35 _ _ _ _ _ h2.ml
end
end Go.Proofs.YtbmmibmfjhehhaaGreat.BC
