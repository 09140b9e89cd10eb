/- AesStreams: for any key, any nonce, any number and any bytes, the statement's function answers true and leaves its arguments as they were. No condition. -/
import Derived.Test.YtjohckgdbbhpdaaT7
import Derived.Test.YtjohckgdbbhpdaaE8
import Derived.Test.YtjohckgdbbhpdaaJ8
import Derived.Test.YtjohckgdbbhpdaaF8
import Derived.Test.YtjohckgdbbhpdaaY7
import Derived.Test.YtjohckgdbbhpdaaRows
import Derived.WalkKit
import Derived.ProofKit
import Derived.OpenShut
import Derived.Carry
set_option linter.unusedVariables false
set_option linter.unusedSimpArgs false
namespace Go.Proofs.Ytjohckgdbbhpdaa.aesStreams
open Go.ChangeShapes Go.WideShapes Go.ChangeAt Go.RowKit

theorem own : ownKnob Try.prog.godebug = none := by kernel_rfl
theorem laidOut : laidOutB Try.prog = true := by kernel_rfl

/-- What stays while the statement's function runs. -/
def TS (w : World) (KA NA : Array Value) (v : Value) (b : List UInt8) (wr : World) : Prop :=
  wr.heap[w.heap.size]? = some (.cells KA 26 (0, 0)) ∧ wr.heap[w.heap.size + 1]? = some (.cells NA 35 (0, 0)) ∧ HB wr v b ∧ Below w.heap.size w wr ∧ w.heap.size + 2 ≤ wr.heap.size
theorem TS.below {w : World} {KA NA : Array Value} {v : Value} {b : List UInt8} {x y : World} (h : TS w KA NA v b x) (hb : Below x.heap.size x y) : TS w KA NA v b y := by
  obtain ⟨h1, h2, h3, h4, h5⟩ := h
  have := hb.size
  exact ⟨(hb.block _ (by omega)).trans h1, (hb.block _ (by omega)).trans h2, h3.below hb, h4.trans (hb.mono (by omega)), by omega⟩

theorem HB.at {w : World} {p : Option Addr} {N c : Nat} {l : List UInt8} (h : HB w (.slice p N c) l) (k : Nat) (hk : k < l.length) : ∃ b o, p = some ⟨b, o, none⟩ ∧ w.cell? ⟨b, o + k, none⟩ = some (.int .u8 ((l.getD k 0).toNat : Int)) := by
  rcases h with ⟨rfl, _⟩ | ⟨b, o, cap, e, _, _, h3⟩
  · simp at hk
  · simp only [Value.slice.injEq] at e
    exact ⟨b, o, e.1, h3 k hk⟩


/- The second half: Mask, and each byte of it; the world is w1. -/

set_option maxHeartbeats 8000000 in
set_option maxRecDepth 100000 in
theorem walk (key nonce : List UInt8) (n : Int) (vb : Value) (b : List UInt8) (w : World) (hk : key.length = 16) (hn : nonce.length = 8) (hw : (Lit.int .i64 n).wf = true) (hbl : b.length ≤ 9223372036854775807) (hb : HB w vb b) : Calls Try.prog 5 #[.agg (key.map B8).toArray, .agg (nonce.map B8).toArray, .int .i64 n, vb] w fun e w' => e = .returned (.bool true) ∧ Below w.heap.size w w' := by
  have kn := fun W => known_any W
  have hnum := fun n W => num_any n W
  obtain ⟨KA, hKA⟩ : ∃ A, A = (key.map B8).toArray := ⟨_, rfl⟩
  obtain ⟨NA, hNA⟩ : ∃ A, A = (nonce.map B8).toArray := ⟨_, rfl⟩
  have HKI : Hid _ := info16 KA (by rw [hKA]; simp [hk])
  have HNI : Hid _ := info8' NA (by rw [hNA]; simp [hn])
  obtain ⟨pb, cb, rfl, _⟩ := HB.cells' hb
  have HT0 : Hid (TS w KA NA (.slice pb b.length cb) b ((w.alloc (.cells KA 26 (0, 0))).alloc (.cells NA 35 (0, 0)))) :=
    ⟨alloc2_first _ _ _, heap_at _ _ _ (by simp), HB.alloc (HB.alloc hb _) _, ((Below.refl _ _).alloc (Nat.le_refl _) _).alloc (by simp) _, by simp⟩
  by_cases hskip : (600 < n ∧ n ≤ 1048576) ∨ 600 < b.length
  · rw [← hKA, ← hNA]
    have HB0 : Hid _ := HT0.out.2.2.2.1
    clear hKA hNA hk hn hb HT0
    have hfin : ∀ W, Hid (Below w.heap.size w W) → True := fun _ _ => trivial
    by_cases h1 : 600 < n
    · by_cases h2 : n ≤ 1048576
      · clear hskip hfin
        go_enter Try.func5, Try.ntmps5
        go_wp2_with fail
        refine (kn _).mono ?_
        rintro e w1 ⟨rfl, hb1⟩
        have HB1 : Hid (Below w.heap.size w w1) := HB0.out.trans (hb1.mono (by first | (simp; done) | (simp; omega)))
        clear hb1 HB0
        go_wp2
        go_ret
        exact ⟨rfl, HB1.out⟩
      · have h3 : (600 : Int) < (b.length : Int) := by omega
        clear hskip hfin
        go_enter Try.func5, Try.ntmps5
        go_wp2_with fail
        refine (kn _).mono ?_
        rintro e w1 ⟨rfl, hb1⟩
        have HB1 : Hid (Below w.heap.size w w1) := HB0.out.trans (hb1.mono (by first | (simp; done) | (simp; omega)))
        clear hb1 HB0
        go_wp2
        go_ret
        exact ⟨rfl, HB1.out⟩
    · have h3 : (600 : Int) < (b.length : Int) := by omega
      clear hskip hfin
      go_enter Try.func5, Try.ntmps5
      go_wp2_with fail
      refine (kn _).mono ?_
      rintro e w1 ⟨rfl, hb1⟩
      have HB1 : Hid (Below w.heap.size w w1) := HB0.out.trans (hb1.mono (by first | (simp; done) | (simp; omega)))
      clear hb1 HB0
      go_wp2
      go_ret
      exact ⟨rfl, HB1.out⟩
  · have hb6 : b.length ≤ 600 := by omega
    have h6I : ¬ (600 : Int) < (b.length : Int) := by omega
    have hmk := fun (v : Value) (W : World) (h : HB W v b) => pmask_any key nonce b v W hk hn (by omega) h
    have hrb := fun W => rstream_any key nonce b.length W hk hn (by omega)
    have HML : Hid _ := mkA_len key nonce b hk hn
    have HSL : Hid _ := skA_len key nonce b.length hk hn
    have HMG : Hid (∀ i, i < b.length → (mkA key nonce b).getD i 0 = b.getD i 0 ^^^ (skA key nonce b.length).getD i 0) := fun i hi => by
      rw [mkA, xrA_get _ _ b.length i HSL.out rfl hi, x8_comm]
    generalize mkA key nonce b = M at *
    generalize skA key nonce b.length = S at *
    by_cases hbad : n < 0 ∨ 1048576 < n
    · have hsb := fun W => pstream_bad KA NA n W hbad
      rw [← hKA, ← hNA] at hmk hrb ⊢
      clear hKA hNA hk hn hb
      by_cases h0 : n < 0
      · have h60 : ¬ 600 < n := by omega
        clear hskip hbad
        go_enter Try.func5, Try.ntmps5
        go_wp2_with (first
          | (refine wpList_load_row rfl 26 _ rfl w.heap.size rfl 26 KA (0, 0) _ (HT0.out).1 Try.underlying26 rfl HKI.out ?_)
          | (refine wpList_load_row rfl 35 _ rfl (w.heap.size + 1) rfl 35 NA (0, 0) _ (HT0.out).2.1 Try.underlying35 rfl HNI.out ?_))
        refine (hsb _).mono ?_
        rintro e w1 ⟨rfl, hb1⟩
        have HTS : Hid (TS w KA NA (.slice pb b.length cb) b w1) := HT0.out.below hb1
        clear HT0 hb1 hsb
        go_wp2_with fail
        refine (hnum _ _).mono ?_
        rintro e wx ⟨rfl, rfl⟩
        go_wp2_with (first
          | (refine wpList_load_row rfl 26 _ rfl w.heap.size rfl 26 KA (0, 0) _ (HTS.out).1 Try.underlying26 rfl HKI.out ?_)
          | (refine wpList_load_row rfl 35 _ rfl (w.heap.size + 1) rfl 35 NA (0, 0) _ (HTS.out).2.1 Try.underlying35 rfl HNI.out ?_))
        refine (hmk _ _ HTS.out.2.2.1).mono ?_
        rintro e w5 ⟨vm, rfl, hfm, hb5⟩
        have HT5 : Hid (TS w KA NA (.slice pb b.length cb) b w5) := HTS.out.below hb5
        have HM5 : Hid (HB w5 vm M) := hfm.hb
        clear HTS hb5 hfm hmk
        go_wp2_with (first
          | (refine wpList_load_row rfl 26 _ rfl w.heap.size rfl 26 KA (0, 0) _ (HT5.out).1 Try.underlying26 rfl HKI.out ?_)
          | (refine wpList_load_row rfl 35 _ rfl (w.heap.size + 1) rfl 35 NA (0, 0) _ (HT5.out).2.1 Try.underlying35 rfl HNI.out ?_))
        refine (hrb _).mono ?_
        rintro e w6 ⟨vs, rfl, hhs, hb6⟩
        have HT6 : Hid (TS w KA NA (.slice pb b.length cb) b w6) := HT5.out.below hb6
        have HM6 : Hid (HB w6 vm M) := HM5.out.below hb6
        have HS6 : Hid (HB w6 vs S) := hhs
        clear HT5 HM5 hb6 hhs hrb
        obtain ⟨pm, cm, hvm, _⟩ := HB.cells' HM6.out
        rw [HML.out] at hvm
        subst hvm
        obtain ⟨ps, cs, hvs, _⟩ := HB.cells' HS6.out
        rw [HSL.out] at hvs
        subst hvs
        go_wp2_with fail
        refine (hnum _ _).mono ?_
        rintro e wx ⟨rfl, rfl⟩
        go_wp2
        go_loopw [14] (fun i wr => ∃ k : Nat, k ≤ b.length ∧ i = .int .i64 k ∧ TS w KA NA (.slice pb b.length cb) b wr ∧ HB wr (.slice pm b.length cm) M ∧ HB wr (.slice ps b.length cs) S) (fun i _ => b.length - (intOf i).toNat)
        case atStart => exact ⟨0, by omega, rfl, HT6.out, HM6.out, HS6.out⟩
        case round =>
          clear HT6 HM6 HS6
          obtain ⟨k, hk, rfl, hT, hM, hS⟩ := hrel
          by_cases hlt : k < b.length
          · have hkI : (k : Int) < (b.length : Int) := by omega
            have hmg := HMG.out k hlt
            have HFIN : Hid (TS w KA NA (.slice pb b.length cb) b wr.drew ∧ HB wr.drew (.slice pm b.length cm) M ∧ HB wr.drew (.slice ps b.length cs) S) := ⟨hT.below (Below.refl _ _).drew, HB.drew' hM, HB.drew' hS⟩
            obtain ⟨b1, o1, rfl, c1⟩ := HB.at hM k (by rw [HML.out]; exact hlt)
            obtain ⟨b2, o2, rfl, c2⟩ := HB.at hS k (by rw [HSL.out]; exact hlt)
            obtain ⟨b3, o3, rfl, c3⟩ := HB.at hT.2.2.1 k hlt
            have hxy := xor_u8' (b.getD k 0) (S.getD k 0)
            rw [← hmg] at hxy
            generalize b.getD k 0 = x at *
            generalize S.getD k 0 = y at *
            generalize M.getD k 0 = z at *
            clear hT hM hS hmg
            go_wp2
            go_region
            all_goals
              go_wp2
              go_roundw
              case rel => exact ⟨k + 1, by omega, by go_num, HFIN.out.1, HFIN.out.2.1, HFIN.out.2.2⟩
              case measure => simp [intOf]; omega
          · have hkI : ¬ (k : Int) < (b.length : Int) := by omega
            have hsz := hT.2.2.2.2
            have HBK : Hid _ := hT.2.2.2.1
            clear hT hM hS
            go_wp2_with fail
            refine (kn _).mono ?_
            rintro e w7 ⟨rfl, hb7⟩
            have HB7 : Hid (Below w.heap.size w w7) := HBK.out.trans (hb7.mono (by omega))
            clear hb7 HBK kn hnum
            go_wp2
            go_ret
            exact ⟨rfl, HB7.out⟩
      · have h1 : 1048576 < n := by omega
        have h60 : 600 < n := by omega
        have h61 : ¬ n ≤ 1048576 := by omega
        clear hskip hbad
        go_enter Try.func5, Try.ntmps5
        go_wp2_with (first
          | (refine wpList_load_row rfl 26 _ rfl w.heap.size rfl 26 KA (0, 0) _ (HT0.out).1 Try.underlying26 rfl HKI.out ?_)
          | (refine wpList_load_row rfl 35 _ rfl (w.heap.size + 1) rfl 35 NA (0, 0) _ (HT0.out).2.1 Try.underlying35 rfl HNI.out ?_))
        refine (hsb _).mono ?_
        rintro e w1 ⟨rfl, hb1⟩
        have HTS : Hid (TS w KA NA (.slice pb b.length cb) b w1) := HT0.out.below hb1
        clear HT0 hb1 hsb
        go_wp2_with fail
        refine (hnum _ _).mono ?_
        rintro e wx ⟨rfl, rfl⟩
        go_wp2_with (first
          | (refine wpList_load_row rfl 26 _ rfl w.heap.size rfl 26 KA (0, 0) _ (HTS.out).1 Try.underlying26 rfl HKI.out ?_)
          | (refine wpList_load_row rfl 35 _ rfl (w.heap.size + 1) rfl 35 NA (0, 0) _ (HTS.out).2.1 Try.underlying35 rfl HNI.out ?_))
        refine (hmk _ _ HTS.out.2.2.1).mono ?_
        rintro e w5 ⟨vm, rfl, hfm, hb5⟩
        have HT5 : Hid (TS w KA NA (.slice pb b.length cb) b w5) := HTS.out.below hb5
        have HM5 : Hid (HB w5 vm M) := hfm.hb
        clear HTS hb5 hfm hmk
        go_wp2_with (first
          | (refine wpList_load_row rfl 26 _ rfl w.heap.size rfl 26 KA (0, 0) _ (HT5.out).1 Try.underlying26 rfl HKI.out ?_)
          | (refine wpList_load_row rfl 35 _ rfl (w.heap.size + 1) rfl 35 NA (0, 0) _ (HT5.out).2.1 Try.underlying35 rfl HNI.out ?_))
        refine (hrb _).mono ?_
        rintro e w6 ⟨vs, rfl, hhs, hb6⟩
        have HT6 : Hid (TS w KA NA (.slice pb b.length cb) b w6) := HT5.out.below hb6
        have HM6 : Hid (HB w6 vm M) := HM5.out.below hb6
        have HS6 : Hid (HB w6 vs S) := hhs
        clear HT5 HM5 hb6 hhs hrb
        obtain ⟨pm, cm, hvm, _⟩ := HB.cells' HM6.out
        rw [HML.out] at hvm
        subst hvm
        obtain ⟨ps, cs, hvs, _⟩ := HB.cells' HS6.out
        rw [HSL.out] at hvs
        subst hvs
        go_wp2_with fail
        refine (hnum _ _).mono ?_
        rintro e wx ⟨rfl, rfl⟩
        go_wp2
        go_loopw [14] (fun i wr => ∃ k : Nat, k ≤ b.length ∧ i = .int .i64 k ∧ TS w KA NA (.slice pb b.length cb) b wr ∧ HB wr (.slice pm b.length cm) M ∧ HB wr (.slice ps b.length cs) S) (fun i _ => b.length - (intOf i).toNat)
        case atStart => exact ⟨0, by omega, rfl, HT6.out, HM6.out, HS6.out⟩
        case round =>
          clear HT6 HM6 HS6
          obtain ⟨k, hk, rfl, hT, hM, hS⟩ := hrel
          by_cases hlt : k < b.length
          · have hkI : (k : Int) < (b.length : Int) := by omega
            have hmg := HMG.out k hlt
            have HFIN : Hid (TS w KA NA (.slice pb b.length cb) b wr.drew ∧ HB wr.drew (.slice pm b.length cm) M ∧ HB wr.drew (.slice ps b.length cs) S) := ⟨hT.below (Below.refl _ _).drew, HB.drew' hM, HB.drew' hS⟩
            obtain ⟨b1, o1, rfl, c1⟩ := HB.at hM k (by rw [HML.out]; exact hlt)
            obtain ⟨b2, o2, rfl, c2⟩ := HB.at hS k (by rw [HSL.out]; exact hlt)
            obtain ⟨b3, o3, rfl, c3⟩ := HB.at hT.2.2.1 k hlt
            have hxy := xor_u8' (b.getD k 0) (S.getD k 0)
            rw [← hmg] at hxy
            generalize b.getD k 0 = x at *
            generalize S.getD k 0 = y at *
            generalize M.getD k 0 = z at *
            clear hT hM hS hmg
            go_wp2
            go_region
            all_goals
              go_wp2
              go_roundw
              case rel => exact ⟨k + 1, by omega, by go_num, HFIN.out.1, HFIN.out.2.1, HFIN.out.2.2⟩
              case measure => simp [intOf]; omega
          · have hkI : ¬ (k : Int) < (b.length : Int) := by omega
            have hsz := hT.2.2.2.2
            have HBK : Hid _ := hT.2.2.2.1
            clear hT hM hS
            go_wp2_with fail
            refine (kn _).mono ?_
            rintro e w7 ⟨rfl, hb7⟩
            have HB7 : Hid (Below w.heap.size w w7) := HBK.out.trans (hb7.mono (by omega))
            clear hb7 HBK kn hnum
            go_wp2
            go_ret
            exact ⟨rfl, HB7.out⟩
    · obtain ⟨N, rfl⟩ : ∃ N : Nat, n = (N : Int) := ⟨n.toNat, by omega⟩
      have hN : N ≤ 600 := by omega
      have hst := fun W => pstream_any key nonce N W hk hn (by omega)
      have hrs := fun W => rstream_any key nonce N W hk hn (by omega)
      have hsame := fun u v W hu hv => same_any u v (skA key nonce N) (skA key nonce N) W hu hv
      generalize skA key nonce N = Q at *
      have e1 : decide (Q = Q) = true := by simp
      rw [e1] at hsame
      rw [← hKA, ← hNA] at hmk hrb hst hrs ⊢
      have h0 : ¬ (N : Int) < 0 := by omega
      have h60 : ¬ (600 : Int) < (N : Int) := by omega
      have h10 : ¬ (1048576 : Int) < (N : Int) := by omega
      clear hKA hNA hk hn hb hskip hbad e1
      go_enter Try.func5, Try.ntmps5
      go_wp2_with (first
        | (refine wpList_load_row rfl 26 _ rfl w.heap.size rfl 26 KA (0, 0) _ (HT0.out).1 Try.underlying26 rfl HKI.out ?_)
        | (refine wpList_load_row rfl 35 _ rfl (w.heap.size + 1) rfl 35 NA (0, 0) _ (HT0.out).2.1 Try.underlying35 rfl HNI.out ?_))
      refine (hst _).mono ?_
      rintro e w1 ⟨v1, rfl, hf1, hb1⟩
      have HT1 : Hid (TS w KA NA (.slice pb b.length cb) b w1) := HT0.out.below hb1
      have HQ1 : Hid (HB w1 v1 Q) := hf1.hb
      clear HT0 hb1 hst hf1
      go_wp2_with (first
        | (refine wpList_load_row rfl 26 _ rfl w.heap.size rfl 26 KA (0, 0) _ (HT1.out).1 Try.underlying26 rfl HKI.out ?_)
        | (refine wpList_load_row rfl 35 _ rfl (w.heap.size + 1) rfl 35 NA (0, 0) _ (HT1.out).2.1 Try.underlying35 rfl HNI.out ?_))
      refine (hrs _).mono ?_
      rintro e w2 ⟨v2, rfl, hf2, hb2⟩
      have HTS : Hid (TS w KA NA (.slice pb b.length cb) b w2) := HT1.out.below hb2
      have HQ2 : Hid (HB w2 v1 Q) := HQ1.out.below hb2
      have HQ3 : Hid (HB w2 v2 Q) := hf2
      clear HT1 hb2 hrs hf2 HQ1
      go_wp2_with fail
      refine (hsame _ _ _ HQ2.out HQ3.out).mono ?_
      rintro e wx ⟨rfl, rfl⟩
      clear hsame HQ2 HQ3
      go_wp2_with fail
      refine (hnum _ _).mono ?_
      rintro e wx ⟨rfl, rfl⟩
      go_wp2_with (first
        | (refine wpList_load_row rfl 26 _ rfl w.heap.size rfl 26 KA (0, 0) _ (HTS.out).1 Try.underlying26 rfl HKI.out ?_)
        | (refine wpList_load_row rfl 35 _ rfl (w.heap.size + 1) rfl 35 NA (0, 0) _ (HTS.out).2.1 Try.underlying35 rfl HNI.out ?_))
      refine (hmk _ _ HTS.out.2.2.1).mono ?_
      rintro e w5 ⟨vm, rfl, hfm, hb5⟩
      have HT5 : Hid (TS w KA NA (.slice pb b.length cb) b w5) := HTS.out.below hb5
      have HM5 : Hid (HB w5 vm M) := hfm.hb
      clear HTS hb5 hfm hmk
      go_wp2_with (first
        | (refine wpList_load_row rfl 26 _ rfl w.heap.size rfl 26 KA (0, 0) _ (HT5.out).1 Try.underlying26 rfl HKI.out ?_)
        | (refine wpList_load_row rfl 35 _ rfl (w.heap.size + 1) rfl 35 NA (0, 0) _ (HT5.out).2.1 Try.underlying35 rfl HNI.out ?_))
      refine (hrb _).mono ?_
      rintro e w6 ⟨vs, rfl, hhs, hb6⟩
      have HT6 : Hid (TS w KA NA (.slice pb b.length cb) b w6) := HT5.out.below hb6
      have HM6 : Hid (HB w6 vm M) := HM5.out.below hb6
      have HS6 : Hid (HB w6 vs S) := hhs
      clear HT5 HM5 hb6 hhs hrb
      obtain ⟨pm, cm, hvm, _⟩ := HB.cells' HM6.out
      rw [HML.out] at hvm
      subst hvm
      obtain ⟨ps, cs, hvs, _⟩ := HB.cells' HS6.out
      rw [HSL.out] at hvs
      subst hvs
      go_wp2_with fail
      refine (hnum _ _).mono ?_
      rintro e wx ⟨rfl, rfl⟩
      go_wp2
      go_loopw [14] (fun i wr => ∃ k : Nat, k ≤ b.length ∧ i = .int .i64 k ∧ TS w KA NA (.slice pb b.length cb) b wr ∧ HB wr (.slice pm b.length cm) M ∧ HB wr (.slice ps b.length cs) S) (fun i _ => b.length - (intOf i).toNat)
      case atStart => exact ⟨0, by omega, rfl, HT6.out, HM6.out, HS6.out⟩
      case round =>
        clear HT6 HM6 HS6
        obtain ⟨k, hk, rfl, hT, hM, hS⟩ := hrel
        by_cases hlt : k < b.length
        · have hkI : (k : Int) < (b.length : Int) := by omega
          have hmg := HMG.out k hlt
          have HFIN : Hid (TS w KA NA (.slice pb b.length cb) b wr.drew ∧ HB wr.drew (.slice pm b.length cm) M ∧ HB wr.drew (.slice ps b.length cs) S) := ⟨hT.below (Below.refl _ _).drew, HB.drew' hM, HB.drew' hS⟩
          obtain ⟨b1, o1, rfl, c1⟩ := HB.at hM k (by rw [HML.out]; exact hlt)
          obtain ⟨b2, o2, rfl, c2⟩ := HB.at hS k (by rw [HSL.out]; exact hlt)
          obtain ⟨b3, o3, rfl, c3⟩ := HB.at hT.2.2.1 k hlt
          have hxy := xor_u8' (b.getD k 0) (S.getD k 0)
          rw [← hmg] at hxy
          generalize b.getD k 0 = x at *
          generalize S.getD k 0 = y at *
          generalize M.getD k 0 = z at *
          clear hT hM hS hmg
          go_wp2
          go_region
          all_goals
            go_wp2
            go_roundw
            case rel => exact ⟨k + 1, by omega, by go_num, HFIN.out.1, HFIN.out.2.1, HFIN.out.2.2⟩
            case measure => simp [intOf]; omega
        · have hkI : ¬ (k : Int) < (b.length : Int) := by omega
          have hsz := hT.2.2.2.2
          have HBK : Hid _ := hT.2.2.2.1
          clear hT hM hS
          go_wp2_with fail
          refine (kn _).mono ?_
          rintro e w7 ⟨rfl, hb7⟩
          have HB7 : Hid (Below w.heap.size w w7) := HBK.out.trans (hb7.mono (by omega))
          clear hb7 HBK kn hnum
          go_wp2
          go_ret
          exact ⟨rfl, HB7.out⟩

set_option maxRecDepth 100000 in
theorem lifted (os : Os) (started : os.Started) (H : Type) (enc : TypeId × Value → H) :
    ReturnsInHanded {} Try.checked os 5 .any (Rows.aesStreamsSpec.pre6 enc Try.prog Try.f5 Rows.aesStreamsRow.domain false) (Rows.aesStreamsSpec.post enc Try.prog Try.f5 false true false false) := by
  refine returnsInHanded_of_change (C := Try.checked) own started (by kernel_rfl) Try.func5
    (ChangeSpec.witness6 (enc := enc) (C := Try.checked) false ⟨#[], #[.agg (Array.replicate 16 (.int .u8 0)), .agg (Array.replicate 8 (.int .u8 0)), .int .i64 0, .slice none 0 0], []⟩ 8 (by kernel_rfl) (by kernel_rfl) (by kernel_rfl) (by kernel_rfl)) ?_
  intro W base args ds gs before hval0 hW hcnd _
  have hval : ∀ (j : Nat) t v, Try.f5.params[j]? = some t → args[j]? = some v → Value.okWide Try.prog W .any base t v := hval0
  have hW' := hW
  obtain ⟨p, q, hA0, hV, rfl, hfz, hnd⟩ := hW
  have hA : DataW.TrodAll enc Try.prog W 0 (fun _ => true) true Try.f5.params.toList args.toList ds p := hA0
  rw [Try.params5] at hA hval
  obtain ⟨v0, vs0, d0, ds0, p0, q0, hargs, rfl, rfl, h0, r0⟩ := trodAll_cons hA
  obtain ⟨v1, vs1, d1, ds1, p1, q1, rfl, rfl, rfl, h1, r1⟩ := trodAll_cons r0
  obtain ⟨v2, vs2, d2, ds2, p2, q2, rfl, rfl, rfl, h2, r2⟩ := trodAll_cons r1
  obtain ⟨v3, vs3, d3, ds3, p3, q3, rfl, rfl, rfl, h3, r3⟩ := trodAll_cons r2
  obtain ⟨rfl, rfl, rfl⟩ := trodAll_nil r3
  obtain rfl : args = #[v0, v1, v2, v3] := by cases args; simp_all
  obtain ⟨rfl, rfl⟩ := trodVars_none hV
  have k0 := h0
  have lt0 : ∀ x ∈ p0, x.block < W.heap.size := by obtain ⟨m, hm⟩ := k0; exact DataW.trod_lt m _ _ _ hm
  obtain ⟨l0, rfl, hl0⟩ := open_octets Try.underlying26 (by kernel_rfl) (hval 0 26 v0 rfl rfl) h0
  have k1 := h1
  have lt1 : ∀ x ∈ p1, x.block < W.heap.size := by obtain ⟨m, hm⟩ := k1; exact DataW.trod_lt m _ _ _ hm
  obtain ⟨l1, rfl, hl1⟩ := open_octets Try.underlying35 (by kernel_rfl) (hval 1 35 v1 rfl rfl) h1
  obtain ⟨n2, rfl, rfl, rfl, w2⟩ := open_int Try.underlying3 (hval 2 3 v2 rfl rfl) h2
  obtain ⟨a3, len3, cap3, rfl⟩ := okWide_slice Try.underlying36 (hval 3 36 v3 rfl rfl)
  have k3 := h3
  have lt3 : ∀ x ∈ p3, x.block < W.heap.size := by obtain ⟨m, hm⟩ := k3; exact DataW.trod_lt m _ _ _ hm
  obtain ⟨l3, hl3, hm3⟩ : ∃ l, HB W (.slice a3 len3 cap3) l ∧ l.length ≤ 9223372036854775807 := by obtain ⟨fuel, hf⟩ := h3; exact open_bytes hf
  clear hA0 hval0
  refine (walk l0 l1 n2 _ l3 W hl0 hl1 w2 hm3 hl3).mono fun e W' ⟨he, bel⟩ => ?_
  subst he
  exact ⟨_, rfl, _, _, _, [], _, [], hW', trodAll_mk1 (shut_bool Try.underlying4 _), (trodAll_cons_mk (Below.trod laidOut (by kernel_rfl) (of_decide_eq_true (by kernel_rfl)) k0 bel lt0) (trodAll_cons_mk (Below.trod laidOut (by kernel_rfl) (of_decide_eq_true (by kernel_rfl)) k1 bel lt1) (trodAll_cons_mk (shut_int Try.underlying3 w2) (trodAll_cons_mk (Below.trod laidOut (by kernel_rfl) (of_decide_eq_true (by kernel_rfl)) k3 bel lt3) trodAll_mk0)))), rfl, bel.frame _, fun h => by cases h⟩

theorem over : Rows.aesStreamsRow.holds Try.pinned (OpenSpec.ofChange Rows.aesStreamsSpec) :=
  OpenClaim.holds_of_wide 5 Try.f5 rfl rfl rfl rfl rfl rfl rfl ⟨rfl, rfl, rfl, rfl, rfl⟩ rfl rfl rfl rfl rfl (by kernel_rfl) Try.func5 (by kernel_rfl)
    (of_decide_eq_true (by kernel_rfl)) (by unfold Func.isWrapper; first | (rw [if_pos (by decide +kernel)]; kernel_rfl) | (rw [if_neg (by decide +kernel)]; exact ⟨rfl, rfl⟩))
    (fun os started H enc _ => lifted os started H enc)

end Go.Proofs.Ytjohckgdbbhpdaa.aesStreams
namespace Go.Proofs.Ytjohckgdbbhpdaa
theorem aesStreams_holds : Rows.AesStreamsSaid := aesStreams.over
#print axioms aesStreams_holds
end Go.Proofs.Ytjohckgdbbhpdaa
