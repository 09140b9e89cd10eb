/- GranulePlays: for any number of granules and any acts the statement's function answers true and leaves its arguments as they were. No condition. -/
import Derived.Test.YtpmbbnmpldeajaaKL
import Derived.WalkKit
import Derived.ProofKit
import Derived.OpenShut
import Derived.Carry
set_option linter.unusedVariables false
set_option linter.unusedSimpArgs false
namespace Go.Proofs.Ytpmbbnmpldeajaa.GC
open Go.RowKit

/-- The rows behind the first k acts. -/
def runB (L0 : List Rw) (ls : List Ac) (k : Nat) : List Rw := (ls.take k).foldl doL L0
theorem runB_succ (L0 : List Rw) (ls : List Ac) (k : Nat) (a : Ac) (h : ls[k]? = some a) : runB L0 ls (k + 1) = doL (runB L0 ls k) a := by
  obtain ⟨hk, rfl⟩ := List.getElem?_eq_some_iff.1 h
  unfold runB
  rw [List.take_succ_eq_append_getElem hk, List.foldl_append]
  rfl
/-- No granule is held more often than m times. -/
def Hm (m : Nat) (l : List Rw) : Prop := ∀ r ∈ l, r.held ≤ m
theorem doR_held (a : Ac) (r : Rw) : (doR a r).held ≤ r.held + 1 := by
  unfold doR
  split
  · unfold stR; split <;> simp
  · split
    · simp
    · split
      · split <;> simp; omega
      · simp
theorem mem_doL {l : List Rw} {a : Ac} {x : Rw} (h : x ∈ doL l a) : x ∈ l ∨ ∃ r ∈ l, x = doR a r := by
  unfold doL at h
  split at h
  · exact .inl h
  · split at h
    · rename_i r hr
      rcases List.mem_or_eq_of_mem_set h with h | h
      · exact .inl h
      · exact .inr ⟨r, List.mem_of_getElem? hr, h⟩
    · exact .inl h
theorem Hm.step {m : Nat} {l : List Rw} (h : Hm m l) (a : Ac) : Hm (m + 1) (doL l a) := fun x hx => by
  rcases mem_doL hx with hx | ⟨r, hr, rfl⟩
  · have := h x hx; omega
  · have := h r hr; have := doR_held a r; omega
theorem Hm.zero (n : Nat) : Hm 0 (List.replicate n ZR) := fun x hx => by
  rw [(List.mem_replicate.1 hx).2]; exact Nat.le_refl _
theorem Hm.run {m : Nat} {L0 : List Rw} (h : Hm m L0) (ls : List Ac) : ∀ k, k ≤ ls.length → Hm (m + k) (runB L0 ls k)
  | 0, _ => by simpa [runB] using h
  | k + 1, hk => by
    rw [runB_succ L0 ls k _ (List.getElem?_eq_getElem (by omega))]
    exact (Hm.run h ls k (by omega)).step _
theorem Hm.lt {m : Nat} {l : List Rw} (h : Hm m l) (hm : m ≤ 1000) : ∀ r ∈ l, r.held < 2147483647 := fun r hr => by have := h r hr; omega
theorem info5 (l : List Value) (h : l.length = 5) : (Try.prog.info? 34).map (·.size) = some l.length := by rw [h]; kernel_rfl
set_option maxHeartbeats 8000000 in
set_option maxRecDepth 100000 in
theorem plays_walk (n : Nat) (v1 : Value) (ls : List Ac) (w : World) (h1 : 1 ≤ n) (h2 : n ≤ 20) (hl : ls.length ≤ 100) (hA : HAc w v1 ls) :
    Calls Try.prog 3 #[.int .i64 (n : Int), v1] w fun e w' => e = .returned (.bool true) ∧ Below w.heap.size w w' := by
  obtain ⟨p1, c1, rfl, hls⟩ := hA
  have HLS : Hid _ := hls
  have HNW : Hid (Calls Try.prog 10 #[.int .i64 (n : Int)] w fun e w' => NewEnd w n e w') := new_ok n w (by omega) (by omega)
  obtain ⟨i0, hi, hz0, hz1, hz2⟩ := info_parts infoRow
  unfold rV at hz0
  obtain ⟨ZC, hZC⟩ : ∃ V, V = (rL ZR).toArray := ⟨_, rfl⟩
  rw [← hZC] at hz0
  have HZC : Hid _ := hZC
  clear hls hZC
  go_enter Try.func3, Try.ntmps3
  go_wp2_with fail
  refine Calls.mono HNW.out ?_
  rintro e w1 ⟨tb, gb, rfl, hP, htb, hgb, hb1⟩
  have HP : Hid _ := hP
  have HB1 : Hid _ := hb1
  clear hP hb1 HNW
  -- the document's rows are made at w1
  go_wp2_with (at_make; refine wpList_make_full _ rfl _ _ 28 rfl w1.heap.size 43 i0 (.agg ZC) 3 Try.underlying28 hi hz0 hz1 _ _ _ _ n rfl rfl (by omega) (by omega) ?b2 ?b3 (Nat.le_refl _) ?_)
  case b2 => rw [hz2]; omega
  case b3 => unfold maxLen; omega
  intro w0 hown0 hgrow0
  have hb0 : Below w1.heap.size w1 w0 := (Below.refl _ _).grown hgrow0 (Nat.le_refl _) (fun k h => by cases h)
  have hR : AR w0 w1.heap.size (List.replicate n ZR) := own_ar (by unfold rV; rw [← HZC.out]; exact hown0)
  have HB0 : Hid (Below w.heap.size w w0) := HB1.out.trans (hb0.mono HB1.out.size)
  have hJ : JM w.heap.size w0 tb gb w1.heap.size n (runB (List.replicate n ZR) ls 0) := by
    have hg := HP.out.row.lt
    have ht := row_lt HP.out.head
    exact ⟨HP.out.below hb0, hR, by omega, by omega, HB0.out.size, hgb, HB1.out.size⟩
  have HRW : Hid _ := rows_any tb gb n n w1.heap.size n _ w0 hJ.pm.pr hJ.rm.range
  have HJ0 : Hid _ := hJ
  generalize w1.heap.size = wb at *
  clear hown0 hgrow0 hb0 hR hJ HP HB1 hi hz0 hz1 hz2 HZC
  go_wp2_with fail
  refine Calls.mono HRW.out ?_
  rintro e w2 ⟨rfl, hb2⟩
  have HJ2 : Hid _ := HJ0.out.below hb2
  have HB2 : Hid (Below w.heap.size w w2) := HB0.out.trans (hb2.mono HB0.out.size)
  clear hb2 HJ0 HB0 HRW
  go_wp2
  go_loopw [8] (fun i wr => ∃ k : Nat, k ≤ ls.length ∧ i = .int .i64 k ∧ JM w.heap.size wr tb gb wb n (runB (List.replicate n ZR) ls k) ∧ Below w.heap.size w wr) (fun i _ => ls.length - (intOf i).toNat)
  case atStart => exact ⟨0, Nat.zero_le _, rfl, HJ2.out, HB2.out⟩
  case round =>
    clear HJ2 HB2
    obtain ⟨k, hk, rfl, hJ, hB⟩ := hrel
    generalize wr = W at *
    have HJ : Hid _ := hJ
    have HBK : Hid (Below w.heap.size w W) := hB
    by_cases hlt : k < ls.length
    · have hkI : (k : Int) < (ls.length : Int) := by omega
      obtain ⟨ac, hac⟩ : ∃ ac, ls[k]? = some ac := ⟨_, List.getElem?_eq_getElem hlt⟩
      obtain ⟨ag, ao, rfl, hra, hok⟩ := HLS.out k ac hac
      have hra2 := rangeAt_below hra hB
      have hdo := do_any w.heap.size tb gb wb n _ ac W hJ hok (((Hm.zero n).run ls k hk).lt (by omega))
      rw [← runB_succ _ ls k ac hac] at hdo
      have HDO : Hid _ := hdo
      obtain ⟨AL, hAL⟩ : ∃ L, L = acL ac := ⟨_, rfl⟩
      rw [← hAL] at hra2 HDO
      have HRA : Hid _ := hra2
      have HAI : Hid _ := info5 AL (by rw [hAL]; rfl)
      clear hra hra2 hok hac hJ hB hAL hdo
      go_wp2_with (refine wpList_load_mid rfl 34 _ rfl ag (ao + k * 5) rfl AL _ HRA.out Try.underlying34 rfl HAI.out ?_)
      refine Calls.mono HDO.out ?_
      rintro e W2 ⟨rfl, hJ2, hK2⟩
      have HB2 : Hid (Below w.heap.size w W2) := HBK.out.trans (HJ.out.bel hK2)
      have HJ2 : Hid _ := hJ2
      have HRW : Hid _ := rows_any tb gb n n wb n _ W2 hJ2.pm.pr hJ2.rm.range
      clear hJ2 hK2 HDO HRA HAI
      go_wp2_with fail
      refine Calls.mono HRW.out ?_
      rintro e W3 ⟨rfl, hb3⟩
      have HJ3 : Hid _ := HJ2.out.below hb3
      have HB3 : Hid (Below w.heap.size w W3) := HB2.out.trans (hb3.mono HB2.out.size)
      clear hb3 HJ2 HB2 HRW
      go_wp2
      go_roundw
      case rel => exact ⟨k + 1, by omega, by go_num, HJ3.out, HB3.out⟩
      case measure => simp [intOf]; omega
    · have hke : k = ls.length := by omega
      subst hke
      clear hJ hB hk hlt HLS
      go_wp2_with fail
      refine Calls.mono (known_any W) ?_
      rintro e wk ⟨rfl, hbk⟩
      have HBF : Hid (Below w.heap.size w wk) := HBK.out.trans (hbk.mono HBK.out.size)
      clear hbk
      go_wp2
      go_ret
      exact ⟨rfl, HBF.out⟩
end Go.Proofs.Ytpmbbnmpldeajaa.GC
namespace Go.Proofs.Ytpmbbnmpldeajaa.granulePlays
open Go.ChangeShapes Go.WideShapes Go.ChangeAt Go.RowKit

theorem own : ownKnob Try.prog.godebug = none := by kernel_rfl
theorem laidOut : laidOutB Try.prog = true := by kernel_rfl
set_option maxHeartbeats 1000000 in
set_option maxRecDepth 100000 in
theorem much (n : Int) (p : Option Addr) (N cap : Nat) (w : World) (h : (20 < n ∧ n ≤ 4096) ∨ 100 < N) : Calls Try.prog 3 #[.int .i64 n, .slice p N cap] w fun e w' => e = .returned (.bool true) ∧ Below w.heap.size w w' := by
  by_cases h1 : 20 < n
  · by_cases h2 : n ≤ 4096
    · clear h
      go_enter Try.func3, Try.ntmps3
      go_wp2_with fail
      refine Calls.mono (GC.known_any w) ?_
      rintro e w1 ⟨rfl, hb⟩
      go_wp2
      go_ret
      exact ⟨rfl, hb⟩
    · have h3 : (100 : Int) < (N : Int) := by omega
      clear h
      go_enter Try.func3, Try.ntmps3
      go_wp2_with fail
      refine Calls.mono (GC.known_any w) ?_
      rintro e w1 ⟨rfl, hb⟩
      go_wp2
      go_ret
      exact ⟨rfl, hb⟩
  · have h3 : (100 : Int) < (N : Int) := by omega
    clear h
    go_enter Try.func3, Try.ntmps3
    go_wp2_with fail
    refine Calls.mono (GC.known_any w) ?_
    rintro e w1 ⟨rfl, hb⟩
    go_wp2
    go_ret
    exact ⟨rfl, hb⟩
set_option maxHeartbeats 1000000 in
set_option maxRecDepth 100000 in
theorem bad (n : Int) (p : Option Addr) (N cap : Nat) (w : World) (h : n < 1 ∨ 4096 < n) (hN : ¬ 100 < N) : Calls Try.prog 3 #[.int .i64 n, .slice p N cap] w fun e w' => e = .returned (.bool true) ∧ Below w.heap.size w w' := by
  have HNB : Hid _ := GC.new_bad n w h
  have hNI : ¬ (100 : Int) < (N : Int) := by omega
  by_cases h1 : n < 1
  · clear h
    go_enter Try.func3, Try.ntmps3
    go_wp2_with fail
    refine Calls.mono HNB.out ?_
    rintro e w1 ⟨rfl, rfl⟩
    go_wp2_with fail
    refine Calls.mono (GC.known_any w) ?_
    rintro e w1 ⟨rfl, hb⟩
    go_wp2
    go_ret
    exact ⟨rfl, hb⟩
  · have h2 : 4096 < n := by omega
    have h3 : 20 < n := by omega
    clear h
    go_enter Try.func3, Try.ntmps3
    go_wp2_with fail
    refine Calls.mono HNB.out ?_
    rintro e w1 ⟨rfl, rfl⟩
    go_wp2_with fail
    refine Calls.mono (GC.known_any w) ?_
    rintro e w1 ⟨rfl, hb⟩
    go_wp2
    go_ret
    exact ⟨rfl, hb⟩
theorem walk (n : Int) (v1 : Value) (ls : List GC.Ac) (w : World) (hn : (Lit.int .i64 n).wf = true) (hl : ls.length ≤ 9223372036854775807) (hA : GC.HAc w v1 ls) : Calls Try.prog 3 #[.int .i64 n, v1] w fun e w' => e = .returned (.bool true) ∧ Below w.heap.size w w' := by
  by_cases h1 : (20 < n ∧ n ≤ 4096) ∨ 100 < ls.length
  · obtain ⟨p, cap, rfl, _⟩ := hA
    exact much n p ls.length cap w h1
  · by_cases h2 : n < 1 ∨ 4096 < n
    · obtain ⟨p, cap, rfl, _⟩ := hA
      exact bad n p ls.length cap w h2 (by omega)
    · have := GC.plays_walk n.toNat v1 ls w (by omega) (by omega) (by omega) hA
      rw [show ((n.toNat : Nat) : Int) = n by omega] at this
      exact this
set_option maxRecDepth 100000 in
theorem lifted (os : Os) (started : os.Started) (H : Type) (enc : TypeId × Value → H) :
    ReturnsInHanded {} Try.checked os 3 .any (Rows.granulePlaysSpec.pre6 enc Try.prog Try.f3 Rows.granulePlaysRow.domain false) (Rows.granulePlaysSpec.post enc Try.prog Try.f3 false true false false) := by
  refine returnsInHanded_of_change (C := Try.checked) own started (by kernel_rfl) Try.func3
    (ChangeSpec.witness6 (enc := enc) (C := Try.checked) false ⟨#[], #[.int .i64 0, .slice none 0 0], []⟩ 8 (by kernel_rfl) (by kernel_rfl) (by kernel_rfl) (by kernel_rfl)) ?_
  intro W base args ds gs before hval0 hW hcnd _
  have hval : ∀ (j : Nat) t v, Try.f3.params[j]? = some t → args[j]? = some v → Value.okWide Try.prog W .any base t v := hval0
  have hW' := hW
  obtain ⟨p, q, hA0, hV, rfl, hfz, hnd⟩ := hW
  have hA : DataW.TrodAll enc Try.prog W 0 (fun _ => true) true Try.f3.params.toList args.toList ds p := hA0
  rw [Try.params3] at hA hval
  obtain ⟨v0, vs0, d0, ds0, p0, q0, hargs, rfl, rfl, h0, r0⟩ := trodAll_cons hA
  obtain ⟨v1, vs1, d1, ds1, p1, q1, rfl, rfl, rfl, h1, r1⟩ := trodAll_cons r0
  obtain ⟨rfl, rfl, rfl⟩ := trodAll_nil r1
  obtain rfl : args = #[v0, v1] := by cases args; simp_all
  obtain ⟨rfl, rfl⟩ := trodVars_none hV
  obtain ⟨n0, rfl, rfl, rfl, w0⟩ := open_int Try.underlying3 (hval 0 3 v0 rfl rfl) h0
  obtain ⟨a1, len1, cap1, rfl⟩ := okWide_slice Try.underlying22 (hval 1 22 v1 rfl rfl)
  have k1 := h1
  have lt1 : ∀ x ∈ p1, x.block < W.heap.size := by obtain ⟨m, hm⟩ := k1; exact DataW.trod_lt m _ _ _ hm
  obtain ⟨l1, hl1, hm1⟩ : ∃ ls, GC.HAc W (.slice a1 len1 cap1) ls ∧ ls.length ≤ 9223372036854775807 := by obtain ⟨fuel, hf⟩ := h1; exact GC.open_acts hf
  clear hA0 hval0
  refine (walk n0 _ l1 W w0 hm1 hl1).mono fun e W' ⟨he, bel⟩ => ?_
  subst he
  exact ⟨_, rfl, _, _, _, [], _, [], hW', trodAll_mk1 (shut_bool Try.underlying4 _), (trodAll_cons_mk (shut_int Try.underlying3 w0) (trodAll_cons_mk (Below.trod laidOut (by kernel_rfl) (of_decide_eq_true (by kernel_rfl)) k1 bel lt1) trodAll_mk0)), rfl, bel.frame _, fun h => by cases h⟩

theorem over : Rows.granulePlaysRow.holds Try.pinned (OpenSpec.ofChange Rows.granulePlaysSpec) :=
  OpenClaim.holds_of_wide 3 Try.f3 rfl rfl rfl rfl rfl rfl rfl ⟨rfl, rfl, rfl, rfl, rfl⟩ rfl rfl rfl rfl rfl (by kernel_rfl) Try.func3 (by kernel_rfl)
    (of_decide_eq_true (by kernel_rfl)) (by unfold Func.isWrapper; first | (rw [if_pos (by decide +kernel)]; kernel_rfl) | (rw [if_neg (by decide +kernel)]; exact ⟨rfl, rfl⟩))
    (fun os started H enc _ => lifted os started H enc)

end Go.Proofs.Ytpmbbnmpldeajaa.granulePlays
namespace Go.Proofs.Ytpmbbnmpldeajaa
theorem granulePlays_holds : Rows.GranulePlaysSaid := granulePlays.over
#print axioms granulePlays_holds
end Go.Proofs.Ytpmbbnmpldeajaa
