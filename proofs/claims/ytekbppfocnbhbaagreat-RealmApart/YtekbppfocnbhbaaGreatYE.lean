import Derived.Test.YtekbppfocnbhbaaGreatYD
set_option linter.unusedVariables false
set_option linter.unusedSimpArgs false
set_option maxHeartbeats 16000000
set_option maxRecDepth 100000
namespace Go.Proofs.YtekbppfocnbhbaaGreat.XC
open Go.RowKit
section
variable {c : Cx} {rb last : Nat} {I J : Nat → Prop} {X Y : World} {rl a b : List En} {av : Value} {rd : Int} {r : Rm} {lv : Value}
theorem itL_set70 (hr : r.ok) (n : Nat) : (itL (rd, r, lv)).set 70 (PC.U8 n) = itL (rd, { r with ctr := n }, lv) := by
  show _ :: (rmL r lv).set 69 _ = _
  rw [rmL_set69 hr lv n]; rfl
theorem itL_set103 (hr : r.ok) (n : Nat) : (itL (rd, r, lv)).set 103 (.int .i64 (n : Int)) = itL (rd, { r with recs := n }, lv) := by
  show _ :: (rmL r lv).set 102 _ = _
  rw [rmL_set102 hr lv n]; rfl
theorem rkil_no (h : RX c rb I X rl last av) (hn : rl.length < 1000000) (hno : NoRd rl rd) :
    Calls Tryz.prog 38 #[.pointer (some ⟨rb, 0, none⟩), .int .i64 rd] X fun e Y => e = .returned (.int .i64 6) ∧ X = Y := by
  have HC : Hid (Calls Tryz.prog 13 #[.pointer (some ⟨rb, 0, none⟩), .int .i64 rd] X fun e Y => e = .returned (.int .i64 (-1)) ∧ X = Y) := rat_no h hn hno
  clear h hn hno
  go_enter Tryz.func38, Tryz.ntmps38
  go_wp2_with fail
  refine Calls.mono HC.out ?_
  rintro e w1 ⟨rfl, rfl⟩
  go_wp2
  go_ret
  exact ⟨rfl, rfl⟩
theorem ract_no (h : RX c rb I X rl last av) (hn : rl.length < 1000000) (hno : NoRd rl rd) :
    Calls Tryz.prog 37 #[.pointer (some ⟨rb, 0, none⟩), .int .i64 rd] X fun e Y => e = .returned (.int .i64 6) ∧ X = Y := by
  have HC : Hid (Calls Tryz.prog 13 #[.pointer (some ⟨rb, 0, none⟩), .int .i64 rd] X fun e Y => e = .returned (.int .i64 (-1)) ∧ X = Y) := rat_no h hn hno
  clear h hn hno
  go_enter Tryz.func37, Tryz.ntmps37
  go_wp2_with fail
  refine Calls.mono HC.out ?_
  rintro e w1 ⟨rfl, rfl⟩
  go_wp2
  go_ret
  exact ⟨rfl, rfl⟩
theorem rdrp_no (h : RX c rb I X rl last av) (hn : rl.length < 1000000) (hno : NoRd rl rd) :
    Calls Tryz.prog 36 #[.pointer (some ⟨rb, 0, none⟩), .int .i64 rd] X fun e Y => e = .returned (.int .i64 6) ∧ X = Y := by
  have HC : Hid (Calls Tryz.prog 13 #[.pointer (some ⟨rb, 0, none⟩), .int .i64 rd] X fun e Y => e = .returned (.int .i64 (-1)) ∧ X = Y) := rat_no h hn hno
  clear h hn hno
  go_enter Tryz.func36, Tryz.ntmps36
  go_wp2_with fail
  refine Calls.mono HC.out ?_
  rintro e w1 ⟨rfl, rfl⟩
  go_wp2
  go_ret
  exact ⟨rfl, rfl⟩
theorem rdel_no (h : RX c rb I X rl last av) (hn : rl.length < 1000000) (hno : NoRd rl rd) :
    Calls Tryz.prog 40 #[.pointer (some ⟨rb, 0, none⟩), .int .i64 rd] X fun e Y => e = .returned (.int .i64 6) ∧ X = Y := by
  have HC : Hid (Calls Tryz.prog 13 #[.pointer (some ⟨rb, 0, none⟩), .int .i64 rd] X fun e Y => e = .returned (.int .i64 (-1)) ∧ X = Y) := rat_no h hn hno
  clear h hn hno
  go_enter Tryz.func40, Tryz.ntmps40
  go_wp2_with fail
  refine Calls.mono HC.out ?_
  rintro e w1 ⟨rfl, rfl⟩
  go_wp2
  go_ret
  exact ⟨rfl, rfl⟩
theorem rnxt_no (h : RX c rb I X rl last av) (hn : rl.length < 1000000) (hno : NoRd rl rd) :
    Calls Tryz.prog 33 #[.pointer (some ⟨rb, 0, none⟩), .int .i64 rd] X fun e Y => e = .returned (.tuple #[.int .u64 0, .int .i64 6]) ∧ X = Y := by
  have HC : Hid (Calls Tryz.prog 13 #[.pointer (some ⟨rb, 0, none⟩), .int .i64 rd] X fun e Y => e = .returned (.int .i64 (-1)) ∧ X = Y) := rat_no h hn hno
  clear h hn hno
  go_enter Tryz.func33, Tryz.ntmps33
  go_wp2_with fail
  refine Calls.mono HC.out ?_
  rintro e w1 ⟨rfl, rfl⟩
  go_wp2
  go_ret2
  exact ⟨rfl, rfl⟩
theorem rkil_is (h : RX c rb I X (a ++ (rd, r, lv) :: b) last av) (hn : (a ++ (rd, r, lv) :: b).length < 1000000) (hno : NoRd a rd) :
    Calls Tryz.prog 38 #[.pointer (some ⟨rb, 0, none⟩), .int .i64 rd] X fun e Y => e = .returned (.int .i64 0) ∧ RW c rb I X Y (a ++ (rd, { r with st := 3 }, lv) :: b) last av := by
  obtain ⟨g, cap, hav⟩ := h.slice
  have HC : Hid (Calls Tryz.prog 13 #[.pointer (some ⟨rb, 0, none⟩), .int .i64 rd] X fun e Y => e = .returned (.int .i64 (a.length : Int)) ∧ X = Y) := rat_is h hn hno
  have hc1 := h.cells.2.1
  rw [hav] at hc1
  have hlt : a.length < (a ++ (rd, r, lv) :: b).length := by simp
  have hok := h.ok _ (show (rd, r, lv) ∈ a ++ (rd, r, lv) :: b by simp)
  have hz := h.frz hav (a.length * 104 + 2)
  have hg2 := h.get hav 2 (by decide)
  have hE := h.put hav 2 (by decide) (.int .i64 3) { r with st := 3 } ⟨hok.m, hok.k, hok.t, hok.l⟩ rfl rfl
  have HE : Hid (RW c rb I X (X.setCell ⟨g, a.length * 104 + 2, none⟩ (.int .i64 3)) (a ++ (rd, { r with st := 3 }, lv) :: b) last av) := hE
  replace hg2 : X.cell? ⟨g, a.length * 104 + 2, none⟩ = some (.int .i64 r.st) := hg2
  clear hE h
  obtain ⟨Kk, hKk⟩ : ∃ Kk, Kk = a.length := ⟨_, rfl⟩
  obtain ⟨Nn, hNn⟩ : ∃ Nn, Nn = (a ++ (rd, r, lv) :: b).length := ⟨_, rfl⟩
  rw [← hNn] at hc1 hlt hn
  rw [← hKk] at hlt HC hz hg2 HE
  have hneg : ¬ (Kk : Int) < 0 := by omega
  have hltI : (Kk : Int) < (Nn : Int) := by omega
  clear hno hav hKk hNn
  go_enter Tryz.func38, Tryz.ntmps38
  go_wp2_with fail
  refine Calls.mono HC.out ?_
  rintro e w1 ⟨rfl, rfl⟩
  go_wp2
  go_ret
  exact ⟨rfl, HE.out⟩
theorem ract_st (h : RX c rb I X (a ++ (rd, r, lv) :: b) last av) (hn : (a ++ (rd, r, lv) :: b).length < 1000000) (hno : NoRd a rd) (hst : r.st ≠ 1) :
    Calls Tryz.prog 37 #[.pointer (some ⟨rb, 0, none⟩), .int .i64 rd] X fun e Y => e = .returned (.int .i64 7) ∧ X = Y := by
  obtain ⟨g, cap, hav⟩ := h.slice
  have HC : Hid (Calls Tryz.prog 13 #[.pointer (some ⟨rb, 0, none⟩), .int .i64 rd] X fun e Y => e = .returned (.int .i64 (a.length : Int)) ∧ X = Y) := rat_is h hn hno
  have hc1 := h.cells.2.1
  rw [hav] at hc1
  have hlt : a.length < (a ++ (rd, r, lv) :: b).length := by simp
  have hok := h.ok _ (show (rd, r, lv) ∈ a ++ (rd, r, lv) :: b by simp)
  have hg2 := h.get hav 2 (by decide)
  replace hg2 : X.cell? ⟨g, a.length * 104 + 2, none⟩ = some (.int .i64 r.st) := hg2
  have hne : (r.st == 1) = false := by rw [beq_eq_false_iff_ne]; exact hst
  clear h hst
  obtain ⟨Kk, hKk⟩ : ∃ Kk, Kk = a.length := ⟨_, rfl⟩
  obtain ⟨Nn, hNn⟩ : ∃ Nn, Nn = (a ++ (rd, r, lv) :: b).length := ⟨_, rfl⟩
  rw [← hNn] at hc1 hlt hn
  rw [← hKk] at hlt HC hg2
  have hneg : ¬ (Kk : Int) < 0 := by omega
  have hltI : (Kk : Int) < (Nn : Int) := by omega
  clear hno hav hKk hNn
  generalize r.st = ST at *
  go_enter Tryz.func37, Tryz.ntmps37
  go_wp2_with fail
  refine Calls.mono HC.out ?_
  rintro e w1 ⟨rfl, rfl⟩
  go_wp2
  go_ret
  exact ⟨rfl, rfl⟩
theorem ract_ok (h : RX c rb I X (a ++ (rd, r, lv) :: b) last av) (hn : (a ++ (rd, r, lv) :: b).length < 1000000) (hno : NoRd a rd) (hst : r.st = 1) :
    Calls Tryz.prog 37 #[.pointer (some ⟨rb, 0, none⟩), .int .i64 rd] X fun e Y => e = .returned (.int .i64 0) ∧ RW c rb I X Y (a ++ (rd, { r with st := 2 }, lv) :: b) last av := by
  obtain ⟨g, cap, hav⟩ := h.slice
  have HC : Hid (Calls Tryz.prog 13 #[.pointer (some ⟨rb, 0, none⟩), .int .i64 rd] X fun e Y => e = .returned (.int .i64 (a.length : Int)) ∧ X = Y) := rat_is h hn hno
  have hc1 := h.cells.2.1
  rw [hav] at hc1
  have hlt : a.length < (a ++ (rd, r, lv) :: b).length := by simp
  have hok := h.ok _ (show (rd, r, lv) ∈ a ++ (rd, r, lv) :: b by simp)
  have hz := h.frz hav (a.length * 104 + 2)
  have hg2 := h.get hav 2 (by decide)
  replace hg2 : X.cell? ⟨g, a.length * 104 + 2, none⟩ = some (.int .i64 r.st) := hg2
  have HE : Hid (RW c rb I X (X.setCell ⟨g, a.length * 104 + 2, none⟩ (.int .i64 2)) (a ++ (rd, { r with st := 2 }, lv) :: b) last av) := h.put hav 2 (by decide) (.int .i64 2) { r with st := 2 } ⟨hok.m, hok.k, hok.t, hok.l⟩ rfl rfl
  rw [hst] at hg2
  clear h hst
  obtain ⟨Kk, hKk⟩ : ∃ Kk, Kk = a.length := ⟨_, rfl⟩
  obtain ⟨Nn, hNn⟩ : ∃ Nn, Nn = (a ++ (rd, r, lv) :: b).length := ⟨_, rfl⟩
  rw [← hNn] at hc1 hlt hn
  rw [← hKk] at hlt HC hz hg2 HE
  have hneg : ¬ (Kk : Int) < 0 := by omega
  have hltI : (Kk : Int) < (Nn : Int) := by omega
  clear hno hav hKk hNn
  go_enter Tryz.func37, Tryz.ntmps37
  go_wp2_with fail
  refine Calls.mono HC.out ?_
  rintro e w1 ⟨rfl, rfl⟩
  go_wp2
  go_ret
  exact ⟨rfl, HE.out⟩
theorem rdrp_arg (h : RX c rb I X (a ++ (rd, r, lv) :: b) last av) (hn : (a ++ (rd, r, lv) :: b).length < 1000000) (hno : NoRd a rd) (hst : r.recs = 0) :
    Calls Tryz.prog 36 #[.pointer (some ⟨rb, 0, none⟩), .int .i64 rd] X fun e Y => e = .returned (.int .i64 2) ∧ X = Y := by
  obtain ⟨g, cap, hav⟩ := h.slice
  have HC : Hid (Calls Tryz.prog 13 #[.pointer (some ⟨rb, 0, none⟩), .int .i64 rd] X fun e Y => e = .returned (.int .i64 (a.length : Int)) ∧ X = Y) := rat_is h hn hno
  have hc1 := h.cells.2.1
  rw [hav] at hc1
  have hlt : a.length < (a ++ (rd, r, lv) :: b).length := by simp
  have hok := h.ok _ (show (rd, r, lv) ∈ a ++ (rd, r, lv) :: b by simp)
  have hg2 := h.get hav 103 (by decide)
  replace hg2 : X.cell? ⟨g, a.length * 104 + 103, none⟩ = some (.int .i64 0) := by rw [hg2]; show (rmL r lv)[102]? = _; rw [rmL_102 hok lv, hst]; rfl
  clear h hst
  obtain ⟨Kk, hKk⟩ : ∃ Kk, Kk = a.length := ⟨_, rfl⟩
  obtain ⟨Nn, hNn⟩ : ∃ Nn, Nn = (a ++ (rd, r, lv) :: b).length := ⟨_, rfl⟩
  rw [← hNn] at hc1 hlt hn
  rw [← hKk] at hlt HC hg2
  have hneg : ¬ (Kk : Int) < 0 := by omega
  have hltI : (Kk : Int) < (Nn : Int) := by omega
  clear hno hav hKk hNn
  go_enter Tryz.func36, Tryz.ntmps36
  go_wp2_with fail
  refine Calls.mono HC.out ?_
  rintro e w1 ⟨rfl, rfl⟩
  go_wp2
  go_ret
  exact ⟨rfl, rfl⟩
theorem rdrp_ok (h : RX c rb I X (a ++ (rd, r, lv) :: b) last av) (hn : (a ++ (rd, r, lv) :: b).length < 1000000) (hno : NoRd a rd) (n : Nat) (hst : r.recs = n + 1) (hb : n < 1000000) :
    Calls Tryz.prog 36 #[.pointer (some ⟨rb, 0, none⟩), .int .i64 rd] X fun e Y => e = .returned (.int .i64 0) ∧ RW c rb I X Y (a ++ (rd, { r with recs := n }, lv) :: b) last av := by
  obtain ⟨g, cap, hav⟩ := h.slice
  have HC : Hid (Calls Tryz.prog 13 #[.pointer (some ⟨rb, 0, none⟩), .int .i64 rd] X fun e Y => e = .returned (.int .i64 (a.length : Int)) ∧ X = Y) := rat_is h hn hno
  have hc1 := h.cells.2.1
  rw [hav] at hc1
  have hlt : a.length < (a ++ (rd, r, lv) :: b).length := by simp
  have hok := h.ok _ (show (rd, r, lv) ∈ a ++ (rd, r, lv) :: b by simp)
  have hz := h.frz hav (a.length * 104 + 103)
  have hg2 := h.get hav 103 (by decide)
  obtain ⟨M, hM⟩ : ∃ M : Int, M = ((n + 1 : Nat) : Int) := ⟨_, rfl⟩
  replace hg2 : X.cell? ⟨g, a.length * 104 + 103, none⟩ = some (.int .i64 M) := by rw [hg2]; show (rmL r lv)[102]? = _; rw [rmL_102 hok lv, hst, hM]
  have HE : Hid (RW c rb I X (X.setCell ⟨g, a.length * 104 + 103, none⟩ (.int .i64 (n : Int))) (a ++ (rd, { r with recs := n }, lv) :: b) last av) := h.put hav 103 (by decide) (.int .i64 (n : Int)) { r with recs := n } ⟨hok.m, hok.k, hok.t, hok.l⟩ rfl (itL_set103 hok n)
  have hM0 : (M == 0) = false := by rw [beq_eq_false_iff_ne]; omega
  have hMe : M - 1 = (n : Int) := by omega
  have hMs : IntKind.i64.wrap (M - 1) = (n : Int) := by rw [hMe]; rw [IntKind.wrap_i64]; omega
  clear h hst hM hMe
  obtain ⟨Kk, hKk⟩ : ∃ Kk, Kk = a.length := ⟨_, rfl⟩
  obtain ⟨Nn, hNn⟩ : ∃ Nn, Nn = (a ++ (rd, r, lv) :: b).length := ⟨_, rfl⟩
  rw [← hNn] at hc1 hlt hn
  rw [← hKk] at hlt HC hz hg2 HE
  have hneg : ¬ (Kk : Int) < 0 := by omega
  have hltI : (Kk : Int) < (Nn : Int) := by omega
  clear hno hav hKk hNn
  go_enter Tryz.func36, Tryz.ntmps36
  go_wp2_with fail
  refine Calls.mono HC.out ?_
  rintro e w1 ⟨rfl, rfl⟩
  go_wp2
  go_ret
  exact ⟨rfl, HE.out⟩
theorem rnxt_ok (h : RX c rb I X (a ++ (rd, r, lv) :: b) last av) (hn : (a ++ (rd, r, lv) :: b).length < 1000000) (hno : NoRd a rd) (hst : r.ctr < 4294967296) :
    Calls Tryz.prog 33 #[.pointer (some ⟨rb, 0, none⟩), .int .i64 rd] X fun e Y => e = .returned (.tuple #[.int .u64 ((r.ctr + 1 : Nat) : Int), .int .i64 0]) ∧ RW c rb I X Y (a ++ (rd, { r with ctr := r.ctr + 1 }, lv) :: b) last av := by
  obtain ⟨g, cap, hav⟩ := h.slice
  have HC : Hid (Calls Tryz.prog 13 #[.pointer (some ⟨rb, 0, none⟩), .int .i64 rd] X fun e Y => e = .returned (.int .i64 (a.length : Int)) ∧ X = Y) := rat_is h hn hno
  have hc1 := h.cells.2.1
  rw [hav] at hc1
  have hlt : a.length < (a ++ (rd, r, lv) :: b).length := by simp
  have hok := h.ok _ (show (rd, r, lv) ∈ a ++ (rd, r, lv) :: b by simp)
  have hz := h.frz hav (a.length * 104 + 70)
  have hg2 := h.get hav 70 (by decide)
  obtain ⟨M, hM⟩ : ∃ M : Int, M = (r.ctr : Int) := ⟨_, rfl⟩
  obtain ⟨M1, hM1⟩ : ∃ M1 : Int, M1 = ((r.ctr + 1 : Nat) : Int) := ⟨_, rfl⟩
  replace hg2 : X.cell? ⟨g, a.length * 104 + 70, none⟩ = some (.int .u64 M) := by rw [hg2]; show (rmL r lv)[69]? = _; rw [rmL_69 hok lv, hM]; rfl
  have hR := h.put hav 70 (by decide) (PC.U8 (r.ctr + 1)) { r with ctr := r.ctr + 1 } ⟨hok.m, hok.k, hok.t, hok.l⟩ rfl (itL_set70 hok (r.ctr + 1))
  have hR2 := hR.1.get (g := g) (cap := cap) (by rw [hav]; simp) 70 (by decide)
  replace hR2 : (X.setCell ⟨g, a.length * 104 + 70, none⟩ (.int .u64 M1)).cell? ⟨g, a.length * 104 + 70, none⟩ = some (.int .u64 M1) := by
    rw [hM1]
    refine hR2.trans ?_
    show (rmL { r with ctr := r.ctr + 1 } lv)[69]? = _
    rw [rmL_69 (r := { r with ctr := r.ctr + 1 }) ⟨hok.m, hok.k, hok.t, hok.l⟩ lv]; rfl
  have hR3 := hR.1.cells.2.1
  replace hR3 : (X.setCell ⟨g, a.length * 104 + 70, none⟩ (.int .u64 M1)).cell? ⟨rb, 1, none⟩ = some (.slice (some ⟨g, 0, none⟩) (a ++ (rd, r, lv) :: b).length cap) := by rw [hM1, ← hav]; exact hR3
  have HE : Hid (RW c rb I X (X.setCell ⟨g, a.length * 104 + 70, none⟩ (.int .u64 M1)) (a ++ (rd, { r with ctr := r.ctr + 1 }, lv) :: b) last av) := by rw [hM1]; exact hR
  have hM0 : (M == 4294967296) = false := by rw [beq_eq_false_iff_ne]; omega
  have hMe : M + 1 = M1 := by omega
  have hMs : IntKind.u64.wrap (M + 1) = M1 := by rw [hMe, hM1]; rw [IntKind.wrap_u64]; omega
  rw [← hM1]
  clear h hst hM hMe hR hM1
  have hR4 : Hid ((X.setCell ⟨g, a.length * 104 + 70, none⟩ (.int .u64 M1)).cell? ⟨rb, 1, none⟩ = X.cell? ⟨rb, 1, none⟩) := by show _ = _; rw [hR3, hc1]
  clear hR3
  obtain ⟨Kk, hKk⟩ : ∃ Kk, Kk = a.length := ⟨_, rfl⟩
  obtain ⟨Nn, hNn⟩ : ∃ Nn, Nn = (a ++ (rd, r, lv) :: b).length := ⟨_, rfl⟩
  rw [← hNn] at hc1 hlt hn
  rw [← hKk] at hlt HC hz hg2 HE hR2 hR4
  have hneg : ¬ (Kk : Int) < 0 := by omega
  have hltI : (Kk : Int) < (Nn : Int) := by omega
  clear hno hav hKk hNn
  have hR3 := hR4.out
  rw [hc1] at hR3
  clear hR4
  go_enter Tryz.func33, Tryz.ntmps33
  go_wp2_with fail
  refine Calls.mono HC.out ?_
  rintro e w1 ⟨rfl, rfl⟩
  go_wp2
  go_ret2
  exact ⟨rfl, HE.out⟩
end
end Go.Proofs.YtekbppfocnbhbaaGreat.XC
