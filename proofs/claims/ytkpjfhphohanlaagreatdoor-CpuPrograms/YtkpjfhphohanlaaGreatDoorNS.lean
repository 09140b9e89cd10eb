/- CpuPrograms: for any text and words, the tables of the program's as its text lays them, the statement's function answers true. -/
import Derived.Test.YtkpjfhphohanlaaGreatDoorNQ
import Derived.Test.YtkpjfhphohanlaaGreatDoorNR
import Derived.ShutString
set_option linter.unusedVariables false
set_option linter.unusedSimpArgs false
namespace Go.Proofs.YtkpjfhphohanlaaGreatDoor.cpuPrograms
open Go.ChangeShapes Go.WideShapes Go.ChangeAt Go.RowKit
open Go.Proofs.YtkpjfhphohanlaaGreatDoor.JC
open Go.ChangeMaps (open_string shut_string)
open Go.Proofs.YtkpjfhphohanlaaGreatDoor.EC (row_lt heap_at rangeAt_below rangeAt_row ret_bool ret_i64 beq_int)

set_option maxHeartbeats 1000000 in
set_option maxRecDepth 100000 in
theorem walk (s : ByteArray) (v : Value) (ls : List Int) (w : World) (hll : ls.length ≤ 9223372036854775807) (hv : HU w v ls) (hG : GV w) : Calls Tryz.prog 3 #[.string s, v] w fun e w' => e = .returned (.bool true) ∧ Below w.heap.size w w' := by
  have HK : Hid (∀ W, GV W → Calls Tryz.prog 4 #[] W fun e w' => e = .returned (.bool true) ∧ Below W.heap.size W w') := fun W hW => known_any W hW
  have HGV : Hid (∀ W, Below w.heap.size w W → GV W) := fun W hW => hG.below hW
  have HB0 : Hid (Below w.heap.size w w) := Below.refl _ _
  obtain ⟨pv, cv, rfl, hcv, hrv⟩ := id hv
  have HHV : Hid (∀ X, Below w.heap.size w X → HU X (.slice pv ls.length cv) ls) := fun X hX => hv.keep hX
  clear hv hrv hcv hG
  by_cases h1 : (20000 : Int) < s.size
  · clear hll
    go_enter Tryz.func3, Tryz.ntmps3
    go_wp2_with fail
    refine Calls.mono (HK.out _ (HGV.out _ HB0.out)) ?_
    rintro e V ⟨rfl, hbV⟩
    go_wp2
    go_ret
    exact ⟨rfl, HB0.out.trans (hbV.mono HB0.out.size)⟩
  · by_cases h2 : (600 : Int) < ls.length
    · clear hll
      go_enter Tryz.func3, Tryz.ntmps3
      go_wp2_with fail
      refine Calls.mono (HK.out _ (HGV.out _ HB0.out)) ?_
      rintro e V ⟨rfl, hbV⟩
      go_wp2
      go_ret
      exact ⟨rfl, HB0.out.trans (hbV.mono HB0.out.size)⟩
    · obtain ⟨l, hl⟩ : ∃ l : List UInt8, s = ⟨l.toArray⟩ := ⟨s.data.toList, by cases s; simp⟩
      have hll2 : l.length ≤ 1000000 := by
        have : s.size = l.length := by rw [hl]; simp [ByteArray.size]
        omega
      have hP : ∀ W, GV W → Calls Tryz.prog 5 #[.string s] W fun e w' => (∃ v, e = .returned (.tuple #[v, .int .i64 (pgR l).2.1, .int .i64 (pgR l).2.2]) ∧ FU W.heap.size w' v (pgR l).1) ∧ Below W.heap.size W w' := fun W hW => by rw [hl]; exact (prog_any l hll2 W hW).mono fun e w' ⟨a, b⟩ => ⟨a.one, b⟩
      have hR : ∀ W, GV W → Calls Tryz.prog 6 #[.string s] W fun e w' => (∃ v, e = .returned (.tuple #[v, .int .i64 (pgR l).2.1, .int .i64 (pgR l).2.2]) ∧ FU W.heap.size w' v (pgR l).1) ∧ Below W.heap.size W w' := fun W hW => by rw [hl]; exact (rprog_any l hll2 W hW).mono fun e w' ⟨a, b⟩ => ⟨a.one, b⟩
      have HPU : Hid (∀ x ∈ (pgR l).1, u64 x) := pgR_u l
      have hpl : (pgR l).1.length ≤ 1000000 := Nat.le_trans (pgR_len l) (by decide)
      have hL : ∀ W, GV W → HU W (.slice pv ls.length cv) ls → Calls Tryz.prog 9 #[.slice pv ls.length cv] W fun e w' => e = .returned (.tuple #[sV (lsQ ls).1, .int .i64 (lsQ ls).2]) ∧ Below W.heap.size W w' := fun W hW hh => list_q _ ls W hW hh
      have hM : ∀ W, GV W → HU W (.slice pv ls.length cv) ls → Calls Tryz.prog 10 #[.slice pv ls.length cv] W fun e w' => e = .returned (.tuple #[sV (lsQ ls).1, .int .i64 (lsQ ls).2]) ∧ Below W.heap.size W w' := fun W hW hh => rlist_q _ ls W hW hh
      unfold sV at hL hM
      clear hl hll2 hll
      generalize (pgR l).1 = PL at *
      generalize (pgR l).2.1 = PN at *
      generalize (pgR l).2.2 = PE at *
      generalize (⟨(lsQ ls).1.toArray⟩ : ByteArray) = TS at *
      generalize (lsQ ls).2 = TE at *
      go_enter Tryz.func3, Tryz.ntmps3
      go_wp2_with fail
      refine Calls.mono (hP _ (HGV.out _ HB0.out)) ?_
      rintro e X1 ⟨⟨v1, rfl, hf1⟩, hb1⟩
      have HB1 : Hid (Below w.heap.size w X1) := HB0.out.trans (hb1.mono HB0.out.size)
      have HF1 : Hid _ := hf1
      clear hb1 hf1 hP
      go_wp2_with fail
      refine Calls.mono (hR _ (HGV.out _ HB1.out)) ?_
      rintro e X2 ⟨⟨v2, rfl, hf2⟩, hb2⟩
      have HB2 : Hid (Below w.heap.size w X2) := HB1.out.trans (hb2.mono HB1.out.size)
      have hS := same_eq v1 v2 PL X2 hpl ((FU.below HF1.out hb2).hu HPU.out) (hf2.hu HPU.out)
      clear hb2 hf2 hR HF1
      go_wp2_with fail
      refine Calls.mono hS ?_
      rintro e X3 ⟨rfl, hb3⟩
      have HB3 : Hid (Below w.heap.size w X3) := HB2.out.trans (hb3.mono HB2.out.size)
      clear hb3 hS
      go_wp2_with fail
      refine Calls.mono (num_any _ _) ?_
      rintro e wq ⟨rfl, rfl⟩
      go_wp2_with fail
      refine Calls.mono (hL _ (HGV.out _ HB3.out) (HHV.out _ HB3.out)) ?_
      rintro e X4 ⟨rfl, hb4⟩
      have HB4 : Hid (Below w.heap.size w X4) := HB3.out.trans (hb4.mono HB3.out.size)
      clear hb4 hL
      go_wp2_with fail
      refine Calls.mono (hM _ (HGV.out _ HB4.out) (HHV.out _ HB4.out)) ?_
      rintro e X5 ⟨rfl, hb5⟩
      have HB5 : Hid (Below w.heap.size w X5) := HB4.out.trans (hb5.mono HB4.out.size)
      clear hb5 hM
      go_wp2_with fail
      refine Calls.mono (num_any _ _) ?_
      rintro e wq ⟨rfl, rfl⟩
      go_wp2_with fail
      refine Calls.mono (HK.out _ (HGV.out _ HB5.out)) ?_
      rintro e V ⟨rfl, hbV⟩
      go_wp2
      go_ret
      exact ⟨rfl, HB5.out.trans (hbV.mono HB5.out.size)⟩
set_option maxRecDepth 100000 in
theorem lifted (os : Os) (started : os.Started) (H : Type) (enc : TypeId × Value → H) :
    ReturnsInHanded {} Tryz.checked os 3 .any (fun w args => (Rows.cpuProgramsSpec.pre enc Tryz.prog Tryz.f3 [] false w args ∧ laidMetH Tryz.prog Rows.cpuProgramsRow.laid w) ∧ sizedMet enc Tryz.prog Tryz.f3 (OpenSpec.ofChange Rows.cpuProgramsSpec) false w args) (Rows.cpuProgramsSpec.post enc Tryz.prog Tryz.f3 false true false false) := by
  refine returnsInHanded_of_change_and (C := Tryz.checked) (X := fun w _ => laidMetH Tryz.prog Rows.cpuProgramsRow.laid w) (fun _ _ _ hh h => h.of_heap hh) own started (by kernel_rfl) Tryz.func3
    (ChangeSpec.witness_shaped (enc := enc) (C := Tryz.checked) (os := os) (X := fun w _ => laidMetH Tryz.prog Rows.cpuProgramsRow.laid w) false (World.doorLaid Tryz.prog 400 os) #[.string ByteArray.empty, .slice none 0 0] 8 rfl (World.shaped_of_RefB (by kernel_rfl) (by kernel_rfl)) (by kernel_rfl) (by kernel_rfl) (by kernel_rfl) (door_met os _)) ?_
  intro W base args ds gs before hval0 hW hcnd _ hL _
  have hval : ∀ (j : Nat) t v, Tryz.f3.params[j]? = some t → args[j]? = some v → Value.okWide Tryz.prog W .any base t v := hval0
  have hW' := hW
  obtain ⟨p, q, hA0, hV, rfl, hfz, hnd⟩ := hW
  have hA : DataW.TrodAll enc Tryz.prog W 0 (fun _ => true) true Tryz.f3.params.toList args.toList ds p := hA0
  rw [Tryz.params3] at hA hval
  obtain ⟨v0, vs0, d0, ds0, p0, q0, hargs, rfl, rfl, h0, r0⟩ := trodAll_cons hA
  obtain ⟨v1, vs1, d1, ds1, p1, q1, rfl, rfl, rfl, h1, r1⟩ := trodAll_cons r0
  obtain ⟨rfl, rfl, rfl⟩ := trodAll_nil r1
  obtain rfl : args = #[v0, v1] := by cases args; simp_all
  obtain ⟨rfl, rfl⟩ := trodVars_none hV
  obtain ⟨s0, rfl, rfl, rfl, sm0⟩ := open_string Tryz.underlying9 (hval 0 9 v0 rfl rfl) h0
  obtain ⟨a1, len1, cap1, rfl⟩ := okWide_slice Tryz.underlying22 (hval 1 22 v1 rfl rfl)
  have k1 := h1
  have lt1 : ∀ x ∈ p1, x.block < W.heap.size := by obtain ⟨m, hm⟩ := k1; exact DataW.trod_lt m _ _ _ hm
  obtain ⟨l1, hl1, hm1⟩ : ∃ ls, JC.HU W (.slice a1 len1 cap1) ls ∧ ls.length ≤ 9223372036854775807 := by obtain ⟨fuel, hf⟩ := h1; exact JC.open_us hf
  clear hA0 hval0
  refine (walk s0 _ l1 W hm1 hl1 (of_laid hL)).mono fun e W' ⟨he, bel⟩ => ?_
  subst he
  exact ⟨_, rfl, _, _, _, [], _, [], hW', trodAll_mk1 (shut_bool Tryz.underlying4 _), (trodAll_cons_mk (shut_string Tryz.underlying9 sm0) (trodAll_cons_mk (Below.trod laidOut (by kernel_rfl) (of_decide_eq_true (by kernel_rfl)) k1 bel lt1) trodAll_mk0)), rfl, bel.frame _, fun h => by cases h⟩

theorem over : Rows.cpuProgramsRow.holds Tryz.pinned (OpenSpec.ofChange Rows.cpuProgramsSpec) :=
  OpenClaim.holds_of_wide 3 Tryz.f3 rfl rfl rfl rfl rfl rfl rfl ⟨rfl, rfl, rfl, rfl, rfl⟩ rfl rfl rfl rfl rfl (by kernel_rfl) Tryz.func3 (by kernel_rfl)
    (of_decide_eq_true (by kernel_rfl)) (by unfold Func.isWrapper; first | (rw [if_pos (by decide +kernel)]; kernel_rfl) | (rw [if_neg (by decide +kernel)]; exact ⟨rfl, rfl⟩))
    (fun os started H enc _ => lifted os started H enc)

theorem card : Rows.CpuProgramsCardSaid :=
  Claim7.holds_tied_plain_at .later [] Rows.cpuProgramsCard.laidKinds true Rows.cpuProgramsCard.stood.harness Rows.cpuProgramsCard.stood.looks
    over (fun _ h => by cases h) (by kernel_rfl) (fun _ h => by cases h) cpuPrograms_row_tie rfl ⟨rfl, rfl⟩ (by kernel_rfl) rfl
    (fun f fn hf hfn => by
      obtain rfl : f = 3 := Option.some.inj ((show Tryz.prog.funcNamed Rows.cpuProgramsRow.func = some 3 by kernel_rfl).symm.trans hf) |>.symm
      obtain rfl : fn = Tryz.f3 := (Option.some.inj (Tryz.func3.symm.trans hfn)).symm
      exact ⟨by kernel_rfl, fun j t ht => by
        rw [Tryz.params3] at ht
        have hm : t ∈ [9, 22] := by simpa using Array.mem_of_getElem? ht
        have hall : ([9, 22].all fun u => !Tryz.prog.wantsStandIn u) = true := by kernel_rfl
        exact (show Tryz.prog.wantsStandIn t = false by simpa using List.all_eq_true.1 hall t hm)⟩)
    (by kernel_rfl)
end Go.Proofs.YtkpjfhphohanlaaGreatDoor.cpuPrograms
namespace Go.Proofs.YtkpjfhphohanlaaGreatDoor
theorem cpuPrograms_holds : Rows.CpuProgramsCardSaid := cpuPrograms.card
#print axioms cpuPrograms_holds
end Go.Proofs.YtkpjfhphohanlaaGreatDoor
