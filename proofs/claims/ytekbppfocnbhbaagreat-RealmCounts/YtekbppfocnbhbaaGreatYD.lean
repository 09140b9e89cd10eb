/- realm: what is written in the reference's list; Kill, Activate, DropRec, Next. -/
import Derived.Test.YtekbppfocnbhbaaGreatXA
import Derived.Test.YtekbppfocnbhbaaGreatPM
import Derived.Test.YtekbppfocnbhbaaGreatXV
set_option linter.unusedVariables false
set_option linter.unusedSimpArgs false
namespace Go.Proofs.YtekbppfocnbhbaaGreat.XC
open Go.RowKit

theorem rdL_33 {r : Rd} (h : r.ok) : (rdL r)[33]? = some (.int .i64 r.page) := by
  have e : rdL r = (.int .i64 r.kind :: r.value.map B8) ++ .int .i64 r.page :: (r.data.map B8 ++ PC.rcL r.pc r.rs r.run) := by simp [rdL]
  rw [e]; exact at_app _ _ _ 33 (by simp [h.v])
theorem rdL_val {r : Rd} (h : r.ok) : List.take 32 (rdL r).tail = r.value.map B8 := by
  unfold rdL; rw [List.tail_cons, List.take_append_of_le_length (by simp [h.v]), List.take_of_length_le (by simp [h.v])]
theorem rdL_dat {r : Rd} (h : r.ok) : List.take 128 (List.drop 34 (rdL r)) = r.data.map B8 := by
  have e : rdL r = (.int .i64 r.kind :: (r.value.map B8 ++ [.int .i64 r.page])) ++ (r.data.map B8 ++ PC.rcL r.pc r.rs r.run) := by simp [rdL]
  rw [e]; exact seg_app _ _ _ 34 128 (by simp [h.v]) (by simp [h.d])
theorem rdL_rec {r : Rd} (h : r.ok) : List.take 10 (List.drop 162 (rdL r)) = PC.rcL r.pc r.rs r.run := by
  have e : rdL r = (.int .i64 r.kind :: (r.value.map B8 ++ (.int .i64 r.page :: r.data.map B8))) ++ (PC.rcL r.pc r.rs r.run ++ []) := by simp [rdL]
  rw [e]; exact seg_app _ _ _ 162 10 (by simp [h.v, h.d]) (PC.rcL_len _ _ _ h.s)
end Go.Proofs.YtekbppfocnbhbaaGreat.XC

namespace Go.Proofs.YtekbppfocnbhbaaGreat.XC
open Go.RowKit

theorem itL_len {x : En} (h : x.2.1.ok) : (itL x).length = 104 := by unfold itL; rw [List.length_cons, rmL_len h]
theorem itC_len {l : List En} (h : ∀ x ∈ l, x.2.1.ok) : (itC l).length = l.length * 104 := by
  induction l with
  | nil => rfl
  | cons r l ih =>
    unfold itC at ih ⊢
    rw [List.flatMap_cons, List.length_append, itL_len (h r (by simp)), ih (fun x hx => h x (by simp [hx])), List.length_cons]; omega
theorem itC_app (a b : List En) : itC (a ++ b) = itC a ++ itC b := by unfold itC; rw [List.flatMap_append]
theorem itC_cons (x : En) (b : List En) : itC (x :: b) = itL x ++ itC b := by unfold itC; rw [List.flatMap_cons]
theorem itC_mid {a b : List En} {x : En} (ha : ∀ y ∈ a, y.2.1.ok) (hx : x.2.1.ok) (o : Nat) (ho : o < 104) : (itC (a ++ x :: b))[a.length * 104 + o]? = (itL x)[o]? := by
  rw [itC_app, itC_cons, List.getElem?_append_right (by rw [itC_len ha]; omega), itC_len ha, Nat.add_sub_cancel_left, List.getElem?_append_left (by rw [itL_len hx]; exact ho)]
theorem itC_rd {l : List En} (h : ∀ x ∈ l, x.2.1.ok) {i : Nat} {x : En} (hx : l[i]? = some x) : (itC l)[i * 104]? = some (.int .i64 x.1) := by
  obtain ⟨a, b, rfl, rfl⟩ := split_j hx
  have := itC_mid (a := a) (b := b) (x := x) (fun y hy => h y (by simp [hy])) (h x (by simp)) 0 (by decide)
  rw [Nat.add_zero] at this
  rw [this]; rfl
section
variable {c : Cx} {rb last : Nat} {I J : Nat → Prop} {X Y : World} {rl a b : List En} {av : Value} {rd : Int} {r : Rm} {lv : Value}
theorem RX.form (h : RX c rb I X rl last av) : ∃ p cap, av = .slice p rl.length cap ∧ ∀ i x, rl[i]? = some x → ∃ g, p = some ⟨g, 0, none⟩ ∧ X.cell? ⟨g, i * 104, none⟩ = some (.int .i64 x.1) := by
  rcases h.own.2 with ⟨e1, e2⟩ | ⟨g, cap, cur, e1, _⟩
  · refine ⟨none, 0, by rw [e1, e2], fun i x hx => ?_⟩
    have := (List.getElem?_eq_some_iff.1 hx).1
    omega
  · refine ⟨_, cap, e1, fun i x hx => ⟨g, rfl, ?_⟩⟩
    have := h.own.cells (g := g) (by rw [e1]; rfl) (i * 104) _ (itC_rd h.ok hx)
    rwa [PC.add_none, Nat.zero_add] at this
theorem RX.cells (h : RX c rb I X rl last av) : X.cell? ⟨rb, 0, none⟩ = some (.pointer (some ⟨c.rg, 0, none⟩)) ∧ X.cell? ⟨rb, 1, none⟩ = some av ∧ X.cell? ⟨rb, 2, none⟩ = some (.int .u64 (last : Int)) := by
  refine ⟨?_, ?_, ?_⟩ <;> (rw [cell_of_row _ _ _ _ _ _ h.row]; rfl)
set_option maxHeartbeats 1000000 in
set_option maxRecDepth 100000 in
theorem rat_any (h : RX c rb I X rl last av) (hn : rl.length < 1000000) (rd : Int) (m : Nat) (hm : m ≤ rl.length) (hno : ∀ i x, i < m → rl[i]? = some x → x.1 ≠ rd) (hend : m = rl.length ∨ ∃ x, rl[m]? = some x ∧ x.1 = rd) :
    Calls Tryz.prog 13 #[.pointer (some ⟨rb, 0, none⟩), .int .i64 rd] X fun e Y => e = .returned (.int .i64 (if m = rl.length then -1 else (m : Int))) ∧ X = Y := by
  obtain ⟨p, cap, hav, hcs⟩ := h.form
  have hc1 := h.cells.2.1
  rw [hav] at hc1
  have HCS : Hid (∀ i x, rl[i]? = some x → ∃ g, p = some ⟨g, 0, none⟩ ∧ X.cell? ⟨g, i * 104, none⟩ = some (.int .i64 x.1)) := hcs
  have HNO : Hid (∀ i x, i < m → rl[i]? = some x → x.1 ≠ rd) := hno
  have HEN : Hid (m = rl.length ∨ ∃ x, rl[m]? = some x ∧ x.1 = rd) := hend
  obtain ⟨N, hN⟩ : ∃ N, N = rl.length := ⟨_, rfl⟩
  rw [← hN] at hc1 hn hm ⊢
  have HN : Hid (N = rl.length) := hN
  clear hcs hno hend hav h hN
  obtain ⟨res, hres⟩ : ∃ res : Int, res = if m = N then -1 else (m : Int) := ⟨_, rfl⟩
  rw [← hres]
  have HRE : Hid (res = if m = N then -1 else (m : Int)) := hres
  clear hres
  go_enter Tryz.func13, Tryz.ntmps13
  go_wp2
  go_loopw [5] (fun i wr => ∃ k : Nat, k ≤ m ∧ i = .int .i64 k ∧ wr = X) (fun i _ => N - (intOf i).toNat)
  case atStart => exact ⟨0, Nat.zero_le _, rfl, rfl⟩
  case round =>
    obtain ⟨k, hk, rfl, rfl⟩ := hrel
    by_cases hkm : k < m
    · have hkN : k < rl.length := by rw [← HN.out]; omega
      have hkI : (k : Int) < (N : Int) := by omega
      obtain ⟨x, hx⟩ : ∃ x, rl[k]? = some x := ⟨_, List.getElem?_eq_getElem hkN⟩
      obtain ⟨g, hp, hcx⟩ := HCS.out k x hx
      have hne : (x.1 == rd) = false := by rw [beq_eq_false_iff_ne]; exact HNO.out k x hkm hx
      subst hp
      clear hx hkN
      generalize x.1 = XI at *
      go_wp2
      go_roundw
      case rel => exact ⟨k + 1, by omega, by go_num, trivial⟩
      case measure => simp [intOf]; omega
    · have hke : k = m := by omega
      subst hke
      by_cases hmN : k = N
      · have hkI : ¬ (k : Int) < (N : Int) := by omega
        have hre := HRE.out
        rw [if_pos hmN] at hre
        subst hre
        clear HEN HRE
        go_wp2
        go_ret
        exact ⟨rfl, rfl⟩
      · have hkI : (k : Int) < (N : Int) := by omega
        have hre := HRE.out
        rw [if_neg hmN] at hre
        subst hre
        clear HRE
        rcases HEN.out with he | ⟨x, hx, hxr⟩
        · exact absurd (he.trans HN.out.symm) hmN
        · obtain ⟨g, hp, hcx⟩ := HCS.out k x hx
          have hne : (x.1 == rd) = true := by rw [hxr]; simp
          subst hp
          clear hx hxr HEN
          generalize x.1 = XI at *
          go_wp2
          go_ret
          exact ⟨rfl, rfl⟩
end
end Go.Proofs.YtekbppfocnbhbaaGreat.XC

namespace Go.Proofs.YtekbppfocnbhbaaGreat.XC
open Go.RowKit

theorem itC_set {a b : List En} {x x' : En} (ha : ∀ y ∈ a, y.2.1.ok) (hx : x.2.1.ok) (o : Nat) (ho : o < 104) (v : Value) (he : (itL x).set o v = itL x') : (itC (a ++ x :: b)).set (a.length * 104 + o) v = itC (a ++ x' :: b) := by
  rw [itC_app, itC_cons, itC_app, itC_cons, List.set_append_right _ _ (by rw [itC_len ha]; omega), itC_len ha, Nat.add_sub_cancel_left, List.set_append_left _ _ (by rw [itL_len hx]; exact ho), he]
section
variable {c : Cx} {rb last : Nat} {I J : Nat → Prop} {X Y : World} {rl a b : List En} {av : Value} {rd : Int} {r : Rm} {lv : Value}
theorem RX.keep (h : RX c rb I X rl last av) (hk : ∀ k, (k = rb ∨ av.ownBlock = some k ∨ ∃ x ∈ rl, x.2.2.ownBlock = some k) → Y.heap[k]? = X.heap[k]?) (hI : ∀ k, I k → J k) : RX c rb J Y rl last av := by
  refine ⟨(hk _ (.inl rfl)).trans h.row, ⟨h.own.1, ?_⟩, h.ok, fun x hx => (h.logs x hx).keep (fun k hk1 _ => hk k (.inr (.inr ⟨x, hx, hk1⟩))), fun x hx k hk1 => ⟨hI _ (h.lI x hx k hk1).1, (h.lI x hx k hk1).2⟩, ⟨hI _ h.fI.1, h.fI.2⟩, fun k hk1 => ⟨hI _ (h.aI k hk1).1, (h.aI k hk1).2⟩⟩
  rcases h.own.2 with hn | ⟨g, cap, cur, e1, e2, e3, rest⟩
  · exact .inl hn
  · exact .inr ⟨g, cap, cur, e1, e2, (hk g (.inr (.inl (by rw [e1]; rfl)))).trans e3, rest⟩
theorem RX.slice (h : RX c rb I X (a ++ (rd, r, lv) :: b) last av) : ∃ g cap, av = .slice (some ⟨g, 0, none⟩) (a ++ (rd, r, lv) :: b).length cap := by
  rcases h.own.2 with ⟨e1, e2⟩ | ⟨g, cap, cur, e1, _⟩
  · simp at e2
  · exact ⟨g, cap, e1⟩
theorem RX.get (h : RX c rb I X (a ++ (rd, r, lv) :: b) last av) {g cap : Nat} (hav : av = .slice (some ⟨g, 0, none⟩) (a ++ (rd, r, lv) :: b).length cap) (o : Nat) (ho : o < 104) : X.cell? ⟨g, a.length * 104 + o, none⟩ = (itL (rd, r, lv))[o]? := by
  have h1 := h.own
  rw [hav] at h1
  rw [h1.cellAt _ (by simp; omega), itC_mid (fun y hy => h.ok y (by simp [hy])) (h.ok _ (by simp)) o ho]
theorem RX.frz (h : RX c rb I X (a ++ (rd, r, lv) :: b) last av) {g cap : Nat} (hav : av = .slice (some ⟨g, 0, none⟩) (a ++ (rd, r, lv) :: b).length cap) (o : Nat) : X.frozen? ⟨g, o, none⟩ = false := by
  have h1 := h.own
  rw [hav] at h1
  exact h1.frozenAt _
def RW (c : Cx) (rb : Nat) (I : Nat → Prop) (X Y : World) (rl : List En) (last : Nat) (av : Value) : Prop :=
  RX c rb I Y rl last av ∧ ∃ g, av.ownBlock = some g ∧ R5.Fr (fun k => k = g) X Y ∧ Y.heap.size = X.heap.size
theorem RX.put (h : RX c rb I X (a ++ (rd, r, lv) :: b) last av) {g cap : Nat} (hav : av = .slice (some ⟨g, 0, none⟩) (a ++ (rd, r, lv) :: b).length cap) (o : Nat) (ho : o < 104) (v : Value) (r' : Rm) (hr : r'.ok) (hl : r'.log = r.log) (he : (itL (rd, r, lv)).set o v = itL (rd, r', lv)) :
    RW c rb I X (X.setCell ⟨g, a.length * 104 + o, none⟩ v) (a ++ (rd, r', lv) :: b) last av := by
  have h1 := h.own
  rw [hav] at h1
  have h2 := (h1.stored (a.length * 104 + o) v).1
  rw [itC_set (fun y hy => h.ok y (by simp [hy])) (h.ok _ (by simp)) o ho v he] at h2
  have hg : av.ownBlock = some g := by rw [hav]; rfl
  have hne : ∀ k, k ≠ g → (X.setCell ⟨g, a.length * 104 + o, none⟩ v).heap[k]? = X.heap[k]? := fun k hk => heap_setCell_other _ _ _ _ (by simpa using hk)
  have hin : ∀ y ∈ a ++ (rd, r', lv) :: b, (y ∈ a ++ (rd, r, lv) :: b ∨ y = (rd, r', lv)) := fun y hy => by
    rcases List.mem_append.1 hy with hy | hy
    · exact .inl (by simp [hy])
    · rcases List.mem_cons.1 hy with hy | hy
      · exact .inr hy
      · exact .inl (by simp [hy])
  have h0 : (rd, r, lv) ∈ a ++ (rd, r, lv) :: b := by simp
  refine ⟨⟨(hne rb (h.aI g hg).2.2.symm).trans h.row, ?_, fun y hy => ?_, fun y hy => ?_, fun y hy => ?_, h.fI, h.aI⟩, g, hg, R5.Fr.setCell (R5.Fr.refl _ _) g _ v (.inl rfl), by simp⟩
  · rw [hav]
    simpa using h2
  · rcases hin y hy with hy | rfl
    · exact h.ok y hy
    · exact hr
  · rcases hin y hy with hy | rfl
    · exact (h.logs y hy).keep (fun k hk _ => hne k (fun e => (h.lI y hy k hk).2.2 (by rw [e]; exact hg)))
    · show HR _ lv r'.log
      rw [hl]
      exact (h.logs _ h0).keep (fun k hk _ => hne k (fun e => (h.lI _ h0 k hk).2.2 (by rw [e]; exact hg)))
  · rcases hin y hy with hy | rfl
    · exact h.lI y hy
    · exact h.lI (rd, r, lv) h0
theorem rat_no (h : RX c rb I X rl last av) (hn : rl.length < 1000000) (hno : NoRd rl rd) :
    Calls Tryz.prog 13 #[.pointer (some ⟨rb, 0, none⟩), .int .i64 rd] X fun e Y => e = .returned (.int .i64 (-1)) ∧ X = Y := by
  have := rat_any h hn rd rl.length (Nat.le_refl _) (fun i x _ hx => hno x (List.mem_of_getElem? hx)) (.inl rfl)
  rwa [if_pos rfl] at this
theorem rat_is (h : RX c rb I X (a ++ (rd, r, lv) :: b) last av) (hn : (a ++ (rd, r, lv) :: b).length < 1000000) (hno : NoRd a rd) :
    Calls Tryz.prog 13 #[.pointer (some ⟨rb, 0, none⟩), .int .i64 rd] X fun e Y => e = .returned (.int .i64 (a.length : Int)) ∧ X = Y := by
  have := rat_any h hn rd a.length (by simp) (fun i x hi hx => hno x (by
    rw [List.getElem?_append_left hi] at hx
    exact List.mem_of_getElem? hx)) (.inr ⟨(rd, r, lv), by simp, rfl⟩)
  rwa [if_neg (by simp)] at this
end
end Go.Proofs.YtekbppfocnbhbaaGreat.XC
