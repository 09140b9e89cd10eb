/- Contracts of sha's divided and primes. -/
import Derived.Test.YtbmmibmfjhehhaaGreatV2
import Derived.Deep.AppendLies
set_option linter.unusedVariables false
set_option linter.unusedSimpArgs false
namespace Go.Proofs.YtbmmibmfjhehhaaGreat
open Go.RowKit

theorem retB {a b : Bool} (h : a = b) : Ending.returned (.bool a) = .returned (.bool b) := by rw [h]

def dvq (x : Nat) : List Nat → Bool
  | [] => false
  | p :: t => if x < p * p then false else if x % p = 0 then true else dvq x t
theorem dvq_far (x p : Nat) (t : List Nat) (h : x < p * p) : dvq x (p :: t) = false := by simp [dvq, h]
theorem dvq_hit (x p : Nat) (t : List Nat) (h : ¬ x < p * p) (h2 : x % p = 0) : dvq x (p :: t) = true := by simp [dvq, h, h2]
theorem dvq_on (x p : Nat) (t : List Nat) (h : ¬ x < p * p) (h2 : ¬ x % p = 0) : dvq x (p :: t) = dvq x t := by simp [dvq, h, h2]

def Pr : Nat → List Nat
  | 0 => []
  | k + 1 => if dvq (k + 2) (Pr k) then Pr k else Pr k ++ [k + 2]
theorem Pr_in (k : Nat) : ∀ p ∈ Pr k, 2 ≤ p ∧ p ≤ k + 1 := by
  induction k with
  | zero => simp [Pr]
  | succ k ih =>
    intro p hp
    unfold Pr at hp
    split at hp
    · have := ih p hp; omega
    · rcases List.mem_append.1 hp with h | h
      · have := ih p h; omega
      · simp at h; omega

def Q64 (n : Nat) : Value := .int .u64 (n : Int)
def FQ (base : Nat) (w : World) (v : Value) (l : List Nat) : Prop := w.ownsRow base 27 1 v l.length (l.map Q64)
theorem FQ.cell {base g cap n : Nat} {w : World} {l : List Nat} (h : FQ base w (.slice (some ⟨g, 0, none⟩) n cap) l) (i : Nat) (hi : i < l.length) : w.cell? ⟨g, i, none⟩ = some (.int .u64 ((l.getD i 0 : Nat) : Int)) := by
  have h0 := h
  unfold FQ at h0
  rcases h.2 with ⟨h1, h2⟩ | ⟨g', cap', cur, h1, h2, h3, h4, h5, h6⟩
  · simp at h1
  · simp only [Value.slice.injEq] at h1
    obtain ⟨_, rfl, _⟩ := h1
    have := h0.cellAt (g := g) i (by omega)
    rw [this, List.getElem?_map, List.getElem?_eq_getElem hi]
    simp [Q64, List.getD, List.getElem?_eq_getElem hi]

theorem Tryz.infoU64 : (Tryz.prog.info? 27).map (fun i => (i.zero, i.size, i.bytes)) = some (some (.int .u64 0), 1, 8) := by kernel_rfl

set_option maxHeartbeats 1000000 in
theorem divided_any (x b cap : Nat) (l : List Nat) (w : World) (hx : x ≤ 400) (hll : l.length ≤ 64) (hl : ∀ p ∈ l, 2 ≤ p ∧ p ≤ 400) (hc : ∀ i, i < l.length → w.cell? ⟨b, i, none⟩ = some (.int .u64 ((l.getD i 0 : Nat) : Int))) :
    Calls Tryz.prog 116 #[.int .u64 (x : Int), .slice (some ⟨b, 0, none⟩) l.length cap] w fun e w' => e = .returned (.bool (dvq x l)) ∧ w = w' := by
  have HC : Hid _ := hc
  clear hc
  go_enter Tryz.func116, Tryz.ntmps116
  go_wp2
  go_loop [9] (fun i => ∃ k : Nat, k ≤ l.length ∧ i = .int .i64 k ∧ dvq x l = dvq x (l.drop k)) (fun i => l.length - (intOf i).toNat)
  case atStart => exact ⟨0, Nat.zero_le _, rfl, rfl⟩
  case round =>
    obtain ⟨k, hk, rfl, hd⟩ := hrel
    by_cases hlt : k < l.length
    · have hcx := HC.out k hlt
      have hgd : l.getD k 0 = l[k] := by simp [List.getD, List.getElem?_eq_getElem hlt]
      have hp := hl l[k] (List.getElem_mem hlt)
      rw [List.drop_eq_getElem_cons hlt] at hd
      rw [hgd] at hcx
      have HD : Hid _ := hd
      clear hd hgd
      generalize l[k] = p at *
      obtain ⟨q, hq⟩ : ∃ q, q = p * p := ⟨_, rfl⟩
      have hq1 : (p : Int) * (p : Int) = (q : Int) := by rw [hq]; simp
      have hq2 : q ≤ 160000 := by rw [hq]; exact Nat.mul_le_mul hp.2 hp.2
      have HQ : Hid _ := hq
      clear hq
      have hp2 := hp.1
      have hp3 := hp.2
      by_cases h1 : x < q
      · have HR : Hid _ := HD.out.trans (dvq_far x p _ (by rw [← HQ.out]; exact h1))
        go_wp2
        go_ret
        exact ⟨retB HR.out.symm, rfl⟩
      · have hne : (p : Int) ≠ 0 := by omega
        by_cases h2 : x % p = 0
        · have HR : Hid _ := HD.out.trans (dvq_hit x p _ (by rw [← HQ.out]; exact h1) h2)
          have h3 : ((x : Int) % (p : Int)) = 0 := by rw [← Int.natCast_emod, h2]; rfl
          have h4 : (x : Int).tmod (p : Int) = 0 := by rw [Int.tmod_eq_emod_of_nonneg (by omega)]; exact h3
          go_wp2
          go_ret
          exact ⟨retB HR.out.symm, rfl⟩
        · have HR : Hid _ := HD.out.trans (dvq_on x p _ (by rw [← HQ.out]; exact h1) h2)
          have h3 : ¬ ((x : Int) % (p : Int)) = 0 := by rw [← Int.natCast_emod]; omega
          have h4 : ¬ (x : Int).tmod (p : Int) = 0 := by rw [Int.tmod_eq_emod_of_nonneg (by omega)]; exact h3
          go_wp2
          go_round
          case rel => exact ⟨k + 1, by omega, by go_num, HR.out⟩
          case measure => simp [intOf]; omega
    · have HR : Hid _ := hd.trans (by rw [List.drop_of_length_le (by omega)])
      clear hd
      go_wp2
      go_ret
      exact ⟨retB HR.out.symm, rfl⟩

set_option maxHeartbeats 1000000 in
theorem primes_any (n K : Nat) (w : World) (hK : K ≤ 310) (hn : n ≤ 64) (hP : ∀ k, k ≤ K → ((Pr k).length < n ↔ k < K)) :
    Calls Tryz.prog 97 #[.int .i64 (n : Int)] w fun e w' => ∃ g cap, e = .returned (.slice (some ⟨g, 0, none⟩) (Pr K).length cap) ∧ FQ w.heap.size w' (.slice (some ⟨g, 0, none⟩) (Pr K).length cap) (Pr K) ∧ Below w.heap.size w w' := by
  obtain ⟨i0, hi, hz0, hz1, hz2⟩ := info_parts Tryz.infoU64
  have HP : Hid _ := hP
  clear hP
  go_enter Tryz.func97, Tryz.ntmps97
  go_wp2_with (at_make; refine wpList_make_own _ rfl _ _ 141 rfl w.heap.size 27 i0 (.int .u64 0) 1 Tryz.underlying141 hi hz0 hz1 _ _ _ n rfl rfl (by omega) (by rw [hz2]; omega) (by unfold maxLen; omega) (Nat.le_refl _) ?_; intro w0 hown0 hgrow0)
  go_loopw [3, 4] (fun v x wr => ∃ k g cap : Nat, k ≤ K ∧ x = .int .u64 ((k + 2 : Nat) : Int) ∧ v = .slice (some ⟨g, 0, none⟩) (Pr k).length cap ∧ FQ w.heap.size wr (.slice (some ⟨g, 0, none⟩) (Pr k).length cap) (Pr k) ∧ Below w.heap.size w wr) (fun _ x _ => K + 2 - (intOf x).toNat)
  case atStart => exact ⟨0, _, _, Nat.zero_le _, rfl, rfl, hown0, (Below.refl _ _).grown hgrow0 (Nat.le_refl _) (fun k h => by cases h)⟩
  case round =>
    obtain ⟨k, g, cap, hk, rfl, rfl, hown, hbel⟩ := hrel
    have hsz := hbel.size
    have hin := Pr_in k
    have hlk := HP.out k hk
    have hcell := fun i hi => hown.cell i hi
    have HIN : Hid _ := hin
    have HCE : Hid _ := hcell
    clear hown0 hgrow0 hin hcell
    by_cases hlt : k < K
    · have hlen : (Pr k).length < n := hlk.2 hlt
      clear hlk
      cases hdv : dvq (k + 2) (Pr k) with
      | true =>
        have HS : Hid _ := show Pr (k + 1) = Pr k from by show (if dvq (k + 2) (Pr k) then Pr k else Pr k ++ [k + 2]) = Pr k; rw [hdv]; rfl
        have HDV : Hid _ := hdv
        clear hdv
        obtain ⟨L, hL⟩ : ∃ L, L = Pr k := ⟨_, rfl⟩
        rw [← hL] at HIN HCE HS HDV hlen hown ⊢
        have HL : Hid _ := hL
        clear hL
        go_wp2_with (go_at_call 116; refine (divided_any (k + 2) g cap L _ (by omega) (by omega) (fun p hp => ⟨(HIN.out p hp).1, by have := (HIN.out p hp).2; omega⟩) HCE.out).mono ?_; rintro e wx ⟨rfl, rfl⟩; rw [HDV.out])
        go_roundw
        case rel =>
          refine ⟨k + 1, g, cap, by omega, by go_num, ?_, ?_, hbel⟩
          · rw [HS.out]
          · rw [HS.out]; exact hown
        case measure => simp [intOf]; omega
      | false =>
        have HS : Hid _ := show Pr (k + 1) = Pr k ++ [k + 2] from by show (if dvq (k + 2) (Pr k) then Pr k else Pr k ++ [k + 2]) = _; rw [hdv]; rfl
        have HDV : Hid _ := hdv
        clear hdv
        obtain ⟨L, hL⟩ : ∃ L, L = Pr k := ⟨_, rfl⟩
        rw [← hL] at HIN HCE HS HDV hlen hown ⊢
        have HL : Hid _ := hL
        clear hL
        go_wp2_with (first
          | (go_at_call 116; refine (divided_any (k + 2) g cap L _ (by omega) (by omega) (fun p hp => ⟨(HIN.out p hp).1, by have := (HIN.out p hp).2; omega⟩) HCE.out).mono ?_; rintro e wx ⟨rfl, rfl⟩; rw [HDV.out])
          | (at_builtin; refine wpList_append_lies _ rfl (.tmp 17) (.tmp 19) 141 rfl w.heap.size 27 i0 (.int .u64 0) 1 8 Tryz.underlying141 hi hz0 hz1 hz2 rfl (by decide) (.slice (some ⟨g, 0, none⟩) L.length cap) _ _ rfl (by exact World.ownsRow.alloc hown _) ⟨wr.heap.size, 0, none⟩ 1 1 [Q64 (k + 2)] rfl rfl (by exact cell_one_new _ _ _) (by intro u hu; simp at hu; subst hu; rfl) (by decide) (by unfold maxLen; omega) (by omega) (by simp; omega) _ rfl ?_; intro g3 cap3 w3 hown3 hgr3 hg3 hlt3))
        go_roundw
        case rel =>
          refine ⟨k + 1, g3, cap3, by omega, by go_num, ?_, ?_, (hbel.alloc hbel.size _).grown hgr3 (by simp; omega) (fun j hj => (hown.lt j hj).1)⟩
          · rw [HS.out, List.length_append]; rfl
          · rw [HS.out]
            unfold FQ
            rw [List.length_append, List.map_append]
            exact hown3
        case measure => simp [intOf]; omega
    · have hkK : k = K := by omega
      subst hkK
      have hlen : ¬ (Pr k).length < n := fun h => hlt (hlk.1 h)
      obtain ⟨L, hL⟩ : ∃ L, L = Pr k := ⟨_, rfl⟩
      rw [← hL] at hlen hown ⊢
      have HL : Hid _ := hL
      clear hlk HIN HCE hL hlt
      go_wp2
      go_ret
      rw [← HL.out]
      exact ⟨_, _, rfl, hown, hbel⟩

end Go.Proofs.YtbmmibmfjhehhaaGreat
