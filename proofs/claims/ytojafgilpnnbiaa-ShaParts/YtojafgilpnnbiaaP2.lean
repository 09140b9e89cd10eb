/- Contract of the reference's Pad. -/
import Derived.Test.YtojafgilpnnbiaaV2
import Derived.Test.YtojafgilpnnbiaaM1
import Derived.Deep.AppendLies
import Derived.Laws.AppendOwnNone
set_option linter.unusedVariables false
set_option linter.unusedSimpArgs false
namespace Go.Proofs.Ytojafgilpnnbiaa
open Go.RowKit

/-- How many noughts are laid behind the byte 128. -/
def zeros (n : Nat) : Nat := (119 - n % 64) % 64
/-- A number's eight bytes, the highest first. -/
def be8 (n : Nat) : List UInt8 := (List.range 8).map fun i => UInt8.ofNat (n / 256 ^ (7 - i) % 256)
/-- A message padded. -/
def padL (l : List UInt8) : List UInt8 := l ++ 128 :: List.replicate (zeros l.length) 0 ++ be8 (8 * l.length)
theorem be8_take (n k : Nat) (h : k < 8) : (be8 n).take (k + 1) = (be8 n).take k ++ [UInt8.ofNat (n / 256 ^ (7 - k) % 256)] := by
  have hl : k < (be8 n).length := by simp [be8]; exact h
  rw [List.take_succ_eq_append_getElem hl]
  simp [be8]

/-- A slice's length. -/
def lenV : Value → Nat | .slice _ n _ => n | _ => 0

theorem FB.form' {base : Nat} {w : World} {v : Value} {l : List UInt8} (h : FB base w v l) : ∃ p cap, v = .slice p l.length cap := by
  rcases h.2 with ⟨h1, h2⟩ | ⟨g, cap, cur, h1, _⟩
  · exact ⟨none, 0, by rw [h1, h2]⟩
  · exact ⟨_, cap, h1⟩

theorem HB.cells' {w : World} {v : Value} {l : List UInt8} (h : HB w v l) : ∃ p cap, v = .slice p l.length cap ∧ (p = none → l = [] ∧ cap = 0) ∧ (∀ a, p = some a → ∀ (j : Nat) u, (l.map B8)[j]? = some u → w.cell? (a.add j) = some u) := by
  rcases h with ⟨rfl, p, cap, rfl, hpc⟩ | ⟨b, o, cap, rfl, _, _, hc⟩
  · exact ⟨p, cap, rfl, fun h => ⟨rfl, hpc h⟩, fun a _ j u hu => by simp at hu⟩
  · refine ⟨_, cap, rfl, fun h => by simp at h, fun a ha j u hu => ?_⟩
    simp only [Option.some.injEq] at ha
    subst ha
    have hj : j < l.length := by
      have := (List.getElem?_eq_some_iff.1 hu).1
      simpa using this
    have hadd : (⟨b, o, none⟩ : Addr).add j = ⟨b, o + j, none⟩ := by unfold Addr.add; split <;> simp_all
    rw [hadd, hc j hj]
    rw [List.getElem?_map, List.getElem?_eq_getElem hj] at hu
    simp only [Option.map_some, Option.some.injEq] at hu
    rw [← hu]
    simp [B8, List.getD, List.getElem?_eq_getElem hj]

theorem B8_one' (l : List UInt8) : ∀ u ∈ l.map B8, u.oneCell' = true := by
  intro u hu
  obtain ⟨x, _, rfl⟩ := List.mem_map.1 hu
  rfl

set_option maxHeartbeats 2000000 in
theorem pad_some (a : Addr) (cap : Nat) (l : List UInt8) (w : World) (hr : l.length ≤ 1099511627776) (hc : ∀ (j : Nat) u, (l.map B8)[j]? = some u → w.cell? (a.add j) = some u) :
    Calls Try.prog 14 #[.slice (some a) l.length cap] w fun e w' => ∃ v, e = .returned v ∧ FB w.heap.size w' v (padL l) ∧ Below w.heap.size w w' := by
  obtain ⟨i0, hi, hz0, hz1, hz2⟩ := info_parts Try.infoU8
  have HC : Hid _ := hc
  clear hc
  go_enter Try.func14, Try.ntmps14
  go_wp2_with (first
    | (at_builtin; refine wpList_append_own _ rfl (.const (.slice none 0 0)) (.tmp 6) 22 rfl w.heap.size 5 i0 (.int .u8 0) 1 1 Try.underlying22 hi hz0 hz1 hz2 rfl (by decide) (.slice none 0 0) 0 [] rfl (World.ownsRow_nil _ _ _ _) a l.length cap (l.map B8) rfl (by simp) (by exact HC.out) (B8_one' l) (by unfold maxLen; omega) (by omega) (Nat.le_refl _) ?_; intro v1 w1 hown1 hgr1 hn1; have hb1 : Below w.heap.size w w1 := (Below.refl _ _).grown hgr1 (Nat.le_refl _) (fun j hj => by cases hj))
    | (at_builtin; refine wpList_append_lies _ rfl (.tmp 7) (.tmp 8) 22 rfl w.heap.size 5 i0 (.int .u8 0) 1 1 Try.underlying22 hi hz0 hz1 hz2 rfl (by decide) v1 _ _ rfl (by exact hown1.alloc _) ⟨w1.heap.size, 0, none⟩ 1 1 [B8 128] rfl rfl (by exact cell_one_new _ _ _) (by intro u hu; simp at hu; subst hu; rfl) (by decide) (by unfold maxLen; omega) (by omega) (by simp; have := hb1.size; omega) _ rfl ?_; intro g2 cap2 w2 hown2 hgr2 hg2 hlt2; have hb2 : Below w.heap.size w w2 := (hb1.alloc hb1.size _).grown hgr2 (by simp; have := hb1.size; omega) (fun j hj => (hown1.lt j hj).1)))
  have hZ : zeros l.length ≤ 63 := by unfold zeros; omega
  obtain ⟨Z, hZZ⟩ : ∃ Z, Z = zeros l.length := ⟨_, rfl⟩
  have hZm : (l.length + 1 + Z) % 64 = 56 := by rw [hZZ]; unfold zeros; omega
  rw [← hZZ] at hZ
  have HZ : Hid _ := hZZ
  have HZM : Hid _ := hZm
  clear hZZ hZm
  have hfb0 : FB w.heap.size w2 (.slice (some ⟨g2, 0, none⟩) (l.length + 1) cap2) (l ++ 128 :: List.replicate 0 0) := by
    unfold FB
    simpa using hown2
  clear hown2 hgr2 hg2 hlt2 hown1 hgr1 hn1
  go_loopw [3] (fun v wr => ∃ z : Nat, z ≤ Z ∧ FB w.heap.size wr v (l ++ 128 :: List.replicate z 0) ∧ Below w.heap.size w wr) (fun v _ => l.length + 1 + Z - lenV v)
  case atStart => exact ⟨0, Nat.zero_le _, hfb0, hb2⟩
  case round =>
    obtain ⟨z, hz, hown, hbel⟩ := hrel
    obtain ⟨p, cp, rfl⟩ := hown.form'
    have hsz := hbel.size
    have hlen : (l ++ 128 :: List.replicate z (0 : UInt8)).length = l.length + 1 + z := by simp; omega
    clear hfb0 hb2
    by_cases hlt : z < Z
    · have hne : (((l.length + 1 + z : Nat) : Int) % 64 != 56) = true := by have := HZM.out; rw [bne_iff_ne]; omega
      rw [hlen]
      have hown' := hown
      rw [hlen] at hown'
      obtain ⟨N, hN⟩ : ∃ N, N = l.length + 1 + z := ⟨_, rfl⟩
      rw [← hN] at hne hown' hlen ⊢
      have hNb : N ≤ 1099511627777 + 63 := by omega
      have HN : Hid _ := hN
      have HLEN : Hid _ := hlen
      have hfo : wr.ownsRow w.heap.size 5 1 (.slice p N cp) N ((l ++ 128 :: List.replicate z (0 : UInt8)).map B8) := by have := hown'; unfold FB at this; rw [HLEN.out] at this; exact this
      clear hN hlen
      go_wp2_with (at_builtin; refine wpList_append_lies _ rfl (.tmp 14) (.tmp 15) 22 rfl w.heap.size 5 i0 (.int .u8 0) 1 1 Try.underlying22 hi hz0 hz1 hz2 rfl (by decide) (.slice p N cp) N _ rfl (by exact hfo.alloc _) ⟨wr.heap.size, 0, none⟩ 1 1 [B8 0] rfl rfl (by exact cell_one_new _ _ _) (by intro u hu; simp at hu; subst hu; rfl) (by decide) (by unfold maxLen; omega) (by omega) (by simp; omega) _ rfl ?_; intro g3 cap3 w3 hown3 hgr3 hg3 hlt3)
      go_roundw
      case rel =>
        refine ⟨z + 1, by omega, ?_, (hbel.alloc hbel.size _).grown hgr3 (by simp; omega) (fun j hj => (hfo.lt j hj).1)⟩
        have e : l ++ 128 :: List.replicate (z + 1) (0 : UInt8) = (l ++ 128 :: List.replicate z 0) ++ [0] := by rw [List.replicate_succ']; simp
        unfold FB
        rw [e, List.length_append, List.map_append, HLEN.out]
        exact hown3
      case measure => have := HN.out; simp [lenV]; omega
    · have hzZ : z = Z := by omega
      have hne : (((l.length + 1 + z : Nat) : Int) % 64 != 56) = false := by have := HZM.out; rw [bne_eq_false_iff_eq]; omega
      subst hzZ
      rw [hlen]
      have hfb1 : FB w.heap.size wr (.slice p (l.length + 1 + z) cp) (l ++ 128 :: List.replicate z 0) := by rw [hlen] at hown; exact hown
      obtain ⟨N, hN⟩ : ∃ N, N = l.length + 1 + z := ⟨_, rfl⟩
      rw [← hN] at hne hfb1 hlen ⊢
      have HN : Hid _ := hN
      have HLEN : Hid _ := hlen
      have HB1 : Hid _ := hbel
      obtain ⟨pre, hpre⟩ : ∃ pre, pre = l ++ 128 :: List.replicate z (0 : UInt8) := ⟨_, rfl⟩
      rw [← hpre] at hfb1
      have HPRE : Hid _ := hpre
      have hprel : pre.length ≤ 1099511627776 + 64 := by have := HN.out; rw [hpre, HLEN.out]; omega
      clear hN hlen hown hpre
      go_wp2
      go_loopw [3, 5] (fun v b wr => ∃ j : Nat, j ≤ 8 ∧ b = .int .i64 (7 - (j : Int)) ∧ FB w.heap.size wr v (pre ++ (be8 (8 * l.length)).take j) ∧ Below w.heap.size w wr) (fun _ b _ => (intOf b + 1).toNat)
      case atStart => exact ⟨0, by omega, rfl, by simpa using hfb1, HB1.out⟩
      case round =>
        obtain ⟨j, hj, rfl, hown, hbel2⟩ := hrel
        have hsz2 := hbel2.size
        by_cases hjl : j < 8
        · have HT : Hid _ := be8_take (8 * l.length) j hjl
          obtain ⟨c, hc⟩ : ∃ c, c = 7 - j := ⟨_, rfl⟩
          have hc' : (7 : Int) - (j : Int) = (c : Int) := by omega
          rw [hc']
          have hc7 : c ≤ 7 := by omega
          have hsb := W1.shr_byte c (8 * l.length) (by omega)
          have HSB : Hid _ := hsb
          have HCC : Hid _ := hc
          have htl : (pre ++ (be8 (8 * l.length)).take j).length ≤ 1099511627776 + 72 := by rw [List.length_append, List.length_take]; omega
          clear hc hc' hsb hfb1
          go_wp2_with (at_builtin; refine wpList_append_lies _ rfl (.tmp 25) (.tmp 32) 22 rfl w.heap.size 5 i0 (.int .u8 0) 1 1 Try.underlying22 hi hz0 hz1 hz2 rfl (by decide) u3 _ _ rfl (by exact hown.alloc _) ⟨wr.heap.size, 0, none⟩ 1 1 [_] rfl rfl (by exact cell_one_new _ _ _) (by intro u hu; simp at hu; subst hu; rfl) (by decide) (by unfold maxLen; omega) (by omega) (by simp; omega) _ rfl ?_; intro g4 cap4 w4 hown4 hgr4 hg4 hlt4)
          go_roundw
          case rel =>
            have e1 : (Value.int .u8 ((l.length : Int) * 8 / 2 ^ (8 * c) % 256)) = B8 (UInt8.ofNat (8 * l.length / 256 ^ (7 - j) % 256)) := by
              have h1 := HSB.out
              rw [IntKind.wrap_u8] at h1
              unfold B8
              rw [← HCC.out, ← h1]
              congr 3
              have : ((8 * l.length : Nat) : Int) = (l.length : Int) * 8 := by omega
              rw [this]
            rw [e1] at hown4
            refine ⟨j + 1, by omega, by have := HCC.out; go_num, ?_, (hbel2.alloc hbel2.size _).grown hgr4 (by simp; omega) (fun i hi' => (hown.lt i hi').1)⟩
            unfold FB
            rw [HT.out, ← List.append_assoc, List.length_append, List.map_append]
            simp only [List.length_append, List.length_take] at hown4 ⊢
            exact hown4
          case measure => simp [intOf]
        · have h8 : j = 8 := by omega
          subst h8
          have hneg : (7 : Int) - ((8 : Nat) : Int) < 0 := by omega
          have hres : pre ++ (be8 (8 * l.length)).take 8 = padL l := by rw [HPRE.out, HZ.out]; rfl
          have hown' : FB w.heap.size wr u3 (padL l) := by rw [← hres]; exact hown
          clear hres hown
          go_wp2
          go_ret
          exact ⟨_, rfl, hown', hbel2⟩

theorem be8_zero : be8 0 = List.replicate 8 0 := by decide

set_option maxHeartbeats 2000000 in
theorem pad_nil (w : World) : Calls Try.prog 14 #[.slice none 0 0] w fun e w' => ∃ v, e = .returned v ∧ FB w.heap.size w' v (padL []) ∧ Below w.heap.size w w' := by
  obtain ⟨i0, hi, hz0, hz1, hz2⟩ := info_parts Try.infoU8
  go_enter Try.func14, Try.ntmps14
  go_wp2_with (first
    | (at_builtin; refine wpList_append_own_none rfl (.const (.slice none 0 0)) (.tmp 6) 22 rfl w.heap.size 5 i0 1 Try.underlying22 hi (.slice none 0 0) 0 [] rfl (World.ownsRow_nil _ _ _ _) rfl ?_)
    | (at_builtin; refine wpList_append_lies _ rfl (.tmp 7) (.tmp 8) 22 rfl w.heap.size 5 i0 (.int .u8 0) 1 1 Try.underlying22 hi hz0 hz1 hz2 rfl (by decide) (.slice none 0 0) 0 [] rfl (World.ownsRow_nil _ _ _ _) ⟨w.heap.size, 0, none⟩ 1 1 [B8 128] rfl rfl (by exact cell_one_new _ _ _) (by intro u hu; simp at hu; subst hu; rfl) (by decide) (by decide) (by decide) (by simp) _ rfl ?_; intro g2 cap2 w2 hown2 hgr2 hg2 hlt2; have hb2 : Below w.heap.size w w2 := ((Below.refl _ _).alloc (Nat.le_refl _) _).grown hgr2 (by simp) (fun j hj => by cases hj)))
  have hfb0 : FB w.heap.size w2 (.slice (some ⟨g2, 0, none⟩) 1 cap2) (128 :: List.replicate 0 0) := by
    unfold FB
    simpa using hown2
  clear hown2 hgr2 hg2 hlt2
  go_loopw [3] (fun v wr => ∃ z : Nat, z ≤ 55 ∧ FB w.heap.size wr v (128 :: List.replicate z 0) ∧ Below w.heap.size w wr) (fun v _ => 56 - lenV v)
  case atStart => exact ⟨0, Nat.zero_le _, hfb0, hb2⟩
  case round =>
    obtain ⟨z, hz, hown, hbel⟩ := hrel
    obtain ⟨p, cp, rfl⟩ := hown.form'
    have hsz := hbel.size
    have hlen : (128 :: List.replicate z (0 : UInt8)).length = z + 1 := by simp
    clear hfb0 hb2
    rw [hlen]
    have hown' : FB w.heap.size wr (.slice p (z + 1) cp) (128 :: List.replicate z 0) := by rw [hlen] at hown; exact hown
    have hfo : wr.ownsRow w.heap.size 5 1 (.slice p (z + 1) cp) (z + 1) ((128 :: List.replicate z (0 : UInt8)).map B8) := by have := hown'; unfold FB at this; rw [hlen] at this; exact this
    obtain ⟨N, hN⟩ : ∃ N, N = z + 1 := ⟨_, rfl⟩
    rw [← hN] at hown' hfo hlen ⊢
    have hNb : N ≤ 56 := by omega
    have HN : Hid _ := hN
    have HLEN : Hid _ := hlen
    by_cases hlt : z < 55
    · have hne : ((N : Int) % 64 != 56) = true := by rw [bne_iff_ne]; omega
      clear hN hlen
      go_wp2_with (at_builtin; refine wpList_append_lies _ rfl (.tmp 14) (.tmp 15) 22 rfl w.heap.size 5 i0 (.int .u8 0) 1 1 Try.underlying22 hi hz0 hz1 hz2 rfl (by decide) (.slice p N cp) N _ rfl (by exact hfo.alloc _) ⟨wr.heap.size, 0, none⟩ 1 1 [B8 0] rfl rfl (by exact cell_one_new _ _ _) (by intro u hu; simp at hu; subst hu; rfl) (by decide) (by unfold maxLen; omega) (by omega) (by simp; omega) _ rfl ?_; intro g3 cap3 w3 hown3 hgr3 hg3 hlt3)
      go_roundw
      case rel =>
        refine ⟨z + 1, by omega, ?_, (hbel.alloc hbel.size _).grown hgr3 (by simp; omega) (fun j hj => (hfo.lt j hj).1)⟩
        have e : 128 :: List.replicate (z + 1) (0 : UInt8) = (128 :: List.replicate z 0) ++ [0] := by rw [List.replicate_succ']; simp
        unfold FB
        rw [e, List.length_append, List.map_append, HLEN.out]
        exact hown3
      case measure => have := HN.out; simp [lenV]; omega
    · have hne : ((N : Int) % 64 != 56) = false := by rw [bne_eq_false_iff_eq]; omega
      have HB1 : Hid _ := hbel
      obtain ⟨pre, hpre⟩ : ∃ pre, pre = 128 :: List.replicate z (0 : UInt8) := ⟨_, rfl⟩
      rw [← hpre] at hown'
      have HPRE : Hid _ := hpre
      have hprel : pre.length ≤ 64 := by rw [hpre, HLEN.out]; omega
      have hz55 : z = 55 := by omega
      have HZ : Hid _ := hz55
      clear hN hlen hown hpre hz55 hfo
      go_wp2
      go_loopw [3, 5] (fun v b wr => ∃ j : Nat, j ≤ 8 ∧ b = .int .i64 (7 - (j : Int)) ∧ FB w.heap.size wr v (pre ++ List.replicate j 0) ∧ Below w.heap.size w wr) (fun _ b _ => (intOf b + 1).toNat)
      case atStart => exact ⟨0, by omega, rfl, by simpa using hown', HB1.out⟩
      case round =>
        obtain ⟨j, hj, rfl, hown, hbel2⟩ := hrel
        have hsz2 := hbel2.size
        by_cases hjl : j < 8
        · obtain ⟨c, hc⟩ : ∃ c, c = 7 - j := ⟨_, rfl⟩
          have hc' : (7 : Int) - (j : Int) = (c : Int) := by omega
          rw [hc']
          have hc7 : c ≤ 7 := by omega
          have HCC : Hid _ := hc
          have htl : (pre ++ List.replicate j (0 : UInt8)).length ≤ 72 := by rw [List.length_append, List.length_replicate]; omega
          clear hc hc' hown'
          go_wp2_with (at_builtin; refine wpList_append_lies _ rfl (.tmp 25) (.tmp 32) 22 rfl w.heap.size 5 i0 (.int .u8 0) 1 1 Try.underlying22 hi hz0 hz1 hz2 rfl (by decide) u3 _ _ rfl (by exact hown.alloc _) ⟨wr.heap.size, 0, none⟩ 1 1 [B8 0] rfl rfl (by exact cell_one_new _ _ _) (by intro u hu; simp at hu; subst hu; rfl) (by decide) (by unfold maxLen; omega) (by omega) (by simp; omega) _ rfl ?_; intro g4 cap4 w4 hown4 hgr4 hg4 hlt4)
          go_roundw
          case rel =>
            refine ⟨j + 1, by omega, by have := HCC.out; go_num, ?_, (hbel2.alloc hbel2.size _).grown hgr4 (by simp; omega) (fun i hi' => (hown.lt i hi').1)⟩
            unfold FB
            rw [List.replicate_succ', ← List.append_assoc, List.length_append, List.map_append]
            simp only [List.length_append, List.length_replicate] at hown4 ⊢
            exact hown4
          case measure => simp [intOf]
        · have h8 : j = 8 := by omega
          subst h8
          have hneg : (7 : Int) - ((8 : Nat) : Int) < 0 := by omega
          have hres : pre ++ List.replicate 8 0 = padL [] := by rw [HPRE.out, HZ.out]; decide
          have hown2 : FB w.heap.size wr u3 (padL []) := by rw [← hres]; exact hown
          clear hres hown
          go_wp2
          go_ret
          exact ⟨_, rfl, hown2, hbel2⟩

theorem pad_any (v : Value) (l : List UInt8) (w : World) (hr : l.length ≤ 1099511627776) (h : HB w v l) :
    Calls Try.prog 14 #[v] w fun e w' => ∃ v, e = .returned v ∧ FB w.heap.size w' v (padL l) ∧ Below w.heap.size w w' := by
  obtain ⟨p, cap, rfl, hn, hc⟩ := h.cells'
  cases p with
  | none =>
    obtain ⟨rfl, rfl⟩ := hn rfl
    exact pad_nil w
  | some a => exact pad_some a cap l w hr (hc a rfl)

end Go.Proofs.Ytojafgilpnnbiaa
