/- Several texts in one. -/
import Derived.Test.YtbmmibmfjhehhaaGreatV2
import Derived.Test.YtbmmibmfjhehhaaGreatWh
import Derived.Deep.AppendLies
import Derived.Laws.AppendOwnNone
import Derived.Deep.RegionWith
import Derived.Test.YtbmmibmfjhehhaaGreatY2
set_option linter.unusedVariables false
set_option linter.unusedSimpArgs false
/- Contract of the reference's Pad. -/
namespace Go.Proofs.YtbmmibmfjhehhaaGreat
open Go.RowKit

def zeros (n : Nat) : Nat := (119 - n % 64) % 64
def be8 (n : Nat) : List UInt8 := (List.range 8).map fun i => UInt8.ofNat (n / 256 ^ (7 - i) % 256)
def padL (l : List UInt8) : List UInt8 := l ++ 128 :: List.replicate (zeros l.length) 0 ++ be8 (8 * l.length)
theorem be8_take (n k : Nat) (h : k < 8) : (be8 n).take (k + 1) = (be8 n).take k ++ [UInt8.ofNat (n / 256 ^ (7 - k) % 256)] := by
  have hl : k < (be8 n).length := by simp [be8]; exact h
  rw [List.take_succ_eq_append_getElem hl]
  simp [be8]

def lenV : Value → Nat | .slice _ n _ => n | _ => 0

theorem FB.form' {base : Nat} {w : World} {v : Value} {l : List UInt8} (h : FB base w v l) : ∃ p cap, v = .slice p l.length cap := by
  rcases h.2 with ⟨h1, h2⟩ | ⟨g, cap, cur, h1, _⟩
  · exact ⟨none, 0, by rw [h1, h2]⟩
  · exact ⟨_, cap, h1⟩

theorem HB.cells' {w : World} {v : Value} {l : List UInt8} (h : HB w v l) : ∃ p cap, v = .slice p l.length cap ∧ (p = none → l = [] ∧ cap = 0) ∧ (∀ a, p = some a → ∀ (j : Nat) u, (l.map B8)[j]? = some u → w.cell? (a.add j) = some u) := by
  rcases h with ⟨rfl, p, cap, rfl, hpc⟩ | ⟨b, o, cap, rfl, _, _, hc⟩
  · exact ⟨p, cap, rfl, fun h => ⟨rfl, hpc h⟩, fun a _ j u hu => by simp at hu⟩
  · refine ⟨_, cap, rfl, fun h => by simp at h, fun a ha j u hu => ?_⟩
    simp only [Option.some.injEq] at ha
    subst ha
    have hj : j < l.length := by
      have := (List.getElem?_eq_some_iff.1 hu).1
      simpa using this
    have hadd : (⟨b, o, none⟩ : Addr).add j = ⟨b, o + j, none⟩ := by unfold Addr.add; split <;> simp_all
    rw [hadd, hc j hj]
    rw [List.getElem?_map, List.getElem?_eq_getElem hj] at hu
    simp only [Option.map_some, Option.some.injEq] at hu
    rw [← hu]
    simp [B8, List.getD, List.getElem?_eq_getElem hj]

theorem B8_one' (l : List UInt8) : ∀ u ∈ l.map B8, u.oneCell' = true := by
  intro u hu
  obtain ⟨x, _, rfl⟩ := List.mem_map.1 hu
  rfl

set_option maxHeartbeats 2000000 in
set_option maxRecDepth 100000 in
theorem pad_some (a : Addr) (cap : Nat) (l : List UInt8) (w : World) (hr : l.length ≤ 1099511627776) (hc : ∀ (j : Nat) u, (l.map B8)[j]? = some u → w.cell? (a.add j) = some u) :
    Calls Tryz.prog 57 #[.slice (some a) l.length cap] w fun e w' => ∃ v, e = .returned v ∧ FB w.heap.size w' v (padL l) ∧ Below w.heap.size w w' := by
  obtain ⟨i0, hi, hz0, hz1, hz2⟩ := info_parts Tryz.infoU8
  have HC : Hid _ := hc
  clear hc
  go_enter Tryz.func57, Tryz.ntmps57
  go_wp2_with (first
    | (at_builtin; refine wpList_append_own _ rfl (.const (.slice none 0 0)) (.tmp 6) 64 rfl w.heap.size 5 i0 (.int .u8 0) 1 1 Tryz.underlying64 hi hz0 hz1 hz2 rfl (by decide) (.slice none 0 0) 0 [] rfl (World.ownsRow_nil _ _ _ _) a l.length cap (l.map B8) rfl (by simp) (by exact HC.out) (B8_one' l) (by unfold maxLen; omega) (by omega) (Nat.le_refl _) ?_; intro v1 w1 hown1 hgr1 hn1; have hb1 : Below w.heap.size w w1 := (Below.refl _ _).grown hgr1 (Nat.le_refl _) (fun j hj => by cases hj))
    | (at_builtin; refine wpList_append_lies _ rfl (.tmp 7) (.tmp 8) 64 rfl w.heap.size 5 i0 (.int .u8 0) 1 1 Tryz.underlying64 hi hz0 hz1 hz2 rfl (by decide) v1 _ _ rfl (by exact hown1.alloc _) ⟨w1.heap.size, 0, none⟩ 1 1 [B8 128] rfl rfl (by exact cell_one_new _ _ _) (by intro u hu; simp at hu; subst hu; rfl) (by decide) (by unfold maxLen; omega) (by omega) (by simp; have := hb1.size; omega) _ rfl ?_; intro g2 cap2 w2 hown2 hgr2 hg2 hlt2; have hb2 : Below w.heap.size w w2 := (hb1.alloc hb1.size _).grown hgr2 (by simp; have := hb1.size; omega) (fun j hj => (hown1.lt j hj).1)))
  have hZ : zeros l.length ≤ 63 := by unfold zeros; omega
  obtain ⟨Z, hZZ⟩ : ∃ Z, Z = zeros l.length := ⟨_, rfl⟩
  have hZm : (l.length + 1 + Z) % 64 = 56 := by rw [hZZ]; unfold zeros; omega
  rw [← hZZ] at hZ
  have HZ : Hid _ := hZZ
  have HZM : Hid _ := hZm
  clear hZZ hZm
  have hfb0 : FB w.heap.size w2 (.slice (some ⟨g2, 0, none⟩) (l.length + 1) cap2) (l ++ 128 :: List.replicate 0 0) := by
    unfold FB
    simpa using hown2
  clear hown2 hgr2 hg2 hlt2 hown1 hgr1 hn1
  go_loopw [3] (fun v wr => ∃ z : Nat, z ≤ Z ∧ FB w.heap.size wr v (l ++ 128 :: List.replicate z 0) ∧ Below w.heap.size w wr) (fun v _ => l.length + 1 + Z - lenV v)
  case atStart => exact ⟨0, Nat.zero_le _, hfb0, hb2⟩
  case round =>
    obtain ⟨z, hz, hown, hbel⟩ := hrel
    obtain ⟨p, cp, rfl⟩ := hown.form'
    have hsz := hbel.size
    have hlen : (l ++ 128 :: List.replicate z (0 : UInt8)).length = l.length + 1 + z := by simp; omega
    clear hfb0 hb2
    by_cases hlt : z < Z
    · have hne : (((l.length + 1 + z : Nat) : Int) % 64 != 56) = true := by have := HZM.out; rw [bne_iff_ne]; omega
      rw [hlen]
      have hown' := hown
      rw [hlen] at hown'
      obtain ⟨N, hN⟩ : ∃ N, N = l.length + 1 + z := ⟨_, rfl⟩
      rw [← hN] at hne hown' hlen ⊢
      have hNb : N ≤ 1099511627777 + 63 := by omega
      have HN : Hid _ := hN
      have HLEN : Hid _ := hlen
      have hfo : wr.ownsRow w.heap.size 5 1 (.slice p N cp) N ((l ++ 128 :: List.replicate z (0 : UInt8)).map B8) := by have := hown'; unfold FB at this; rw [HLEN.out] at this; exact this
      clear hN hlen
      go_wp2_with (at_builtin; refine wpList_append_lies _ rfl (.tmp 14) (.tmp 15) 64 rfl w.heap.size 5 i0 (.int .u8 0) 1 1 Tryz.underlying64 hi hz0 hz1 hz2 rfl (by decide) (.slice p N cp) N _ rfl (by exact hfo.alloc _) ⟨wr.heap.size, 0, none⟩ 1 1 [B8 0] rfl rfl (by exact cell_one_new _ _ _) (by intro u hu; simp at hu; subst hu; rfl) (by decide) (by unfold maxLen; omega) (by omega) (by simp; omega) _ rfl ?_; intro g3 cap3 w3 hown3 hgr3 hg3 hlt3)
      go_roundw
      case rel =>
        refine ⟨z + 1, by omega, ?_, (hbel.alloc hbel.size _).grown hgr3 (by simp; omega) (fun j hj => (hfo.lt j hj).1)⟩
        have e : l ++ 128 :: List.replicate (z + 1) (0 : UInt8) = (l ++ 128 :: List.replicate z 0) ++ [0] := by rw [List.replicate_succ']; simp
        unfold FB
        rw [e, List.length_append, List.map_append, HLEN.out]
        exact hown3
      case measure => have := HN.out; simp [lenV]; omega
    · have hzZ : z = Z := by omega
      have hne : (((l.length + 1 + z : Nat) : Int) % 64 != 56) = false := by have := HZM.out; rw [bne_eq_false_iff_eq]; omega
      subst hzZ
      rw [hlen]
      have hfb1 : FB w.heap.size wr (.slice p (l.length + 1 + z) cp) (l ++ 128 :: List.replicate z 0) := by rw [hlen] at hown; exact hown
      obtain ⟨N, hN⟩ : ∃ N, N = l.length + 1 + z := ⟨_, rfl⟩
      rw [← hN] at hne hfb1 hlen ⊢
      have HN : Hid _ := hN
      have HLEN : Hid _ := hlen
      have HB1 : Hid _ := hbel
      obtain ⟨pre, hpre⟩ : ∃ pre, pre = l ++ 128 :: List.replicate z (0 : UInt8) := ⟨_, rfl⟩
      rw [← hpre] at hfb1
      have HPRE : Hid _ := hpre
      have hprel : pre.length ≤ 1099511627776 + 64 := by have := HN.out; rw [hpre, HLEN.out]; omega
      clear hN hlen hown hpre
      go_wp2
      go_loopw [3, 5] (fun v b wr => ∃ j : Nat, j ≤ 8 ∧ b = .int .i64 (7 - (j : Int)) ∧ FB w.heap.size wr v (pre ++ (be8 (8 * l.length)).take j) ∧ Below w.heap.size w wr) (fun _ b _ => (intOf b + 1).toNat)
      case atStart => exact ⟨0, by omega, rfl, by simpa using hfb1, HB1.out⟩
      case round =>
        obtain ⟨j, hj, rfl, hown, hbel2⟩ := hrel
        have hsz2 := hbel2.size
        by_cases hjl : j < 8
        · have HT : Hid _ := be8_take (8 * l.length) j hjl
          obtain ⟨c, hc⟩ : ∃ c, c = 7 - j := ⟨_, rfl⟩
          have hc' : (7 : Int) - (j : Int) = (c : Int) := by omega
          rw [hc']
          have hc7 : c ≤ 7 := by omega
          have hsb := W1.shr_byte c (8 * l.length) (by omega)
          have HSB : Hid _ := hsb
          have HCC : Hid _ := hc
          have htl : (pre ++ (be8 (8 * l.length)).take j).length ≤ 1099511627776 + 72 := by rw [List.length_append, List.length_take]; omega
          clear hc hc' hsb hfb1
          go_wp2_with (at_builtin; refine wpList_append_lies _ rfl (.tmp 25) (.tmp 32) 64 rfl w.heap.size 5 i0 (.int .u8 0) 1 1 Tryz.underlying64 hi hz0 hz1 hz2 rfl (by decide) u3 _ _ rfl (by exact hown.alloc _) ⟨wr.heap.size, 0, none⟩ 1 1 [_] rfl rfl (by exact cell_one_new _ _ _) (by intro u hu; simp at hu; subst hu; rfl) (by decide) (by unfold maxLen; omega) (by omega) (by simp; omega) _ rfl ?_; intro g4 cap4 w4 hown4 hgr4 hg4 hlt4)
          go_roundw
          case rel =>
            have e1 : (Value.int .u8 ((l.length : Int) * 8 / 2 ^ (8 * c) % 256)) = B8 (UInt8.ofNat (8 * l.length / 256 ^ (7 - j) % 256)) := by
              have h1 := HSB.out
              rw [IntKind.wrap_u8] at h1
              unfold B8
              rw [← HCC.out, ← h1]
              congr 3
              have : ((8 * l.length : Nat) : Int) = (l.length : Int) * 8 := by omega
              rw [this]
            rw [e1] at hown4
            refine ⟨j + 1, by omega, by have := HCC.out; go_num, ?_, (hbel2.alloc hbel2.size _).grown hgr4 (by simp; omega) (fun i hi' => (hown.lt i hi').1)⟩
            unfold FB
            rw [HT.out, ← List.append_assoc, List.length_append, List.map_append]
            simp only [List.length_append, List.length_take] at hown4 ⊢
            exact hown4
          case measure => simp [intOf]
        · have h8 : j = 8 := by omega
          subst h8
          have hneg : (7 : Int) - ((8 : Nat) : Int) < 0 := by omega
          have hres : pre ++ (be8 (8 * l.length)).take 8 = padL l := by rw [HPRE.out, HZ.out]; rfl
          have hown' : FB w.heap.size wr u3 (padL l) := by rw [← hres]; exact hown
          clear hres hown
          go_wp2
          go_ret
          exact ⟨_, rfl, hown', hbel2⟩

set_option maxHeartbeats 2000000 in
theorem pad_nil (w : World) : Calls Tryz.prog 57 #[.slice none 0 0] w fun e w' => ∃ v, e = .returned v ∧ FB w.heap.size w' v (padL []) ∧ Below w.heap.size w w' := by
  obtain ⟨i0, hi, hz0, hz1, hz2⟩ := info_parts Tryz.infoU8
  go_enter Tryz.func57, Tryz.ntmps57
  go_wp2_with (first
    | (at_builtin; refine wpList_append_own_none rfl (.const (.slice none 0 0)) (.tmp 6) 64 rfl w.heap.size 5 i0 1 Tryz.underlying64 hi (.slice none 0 0) 0 [] rfl (World.ownsRow_nil _ _ _ _) rfl ?_)
    | (at_builtin; refine wpList_append_lies _ rfl (.tmp 7) (.tmp 8) 64 rfl w.heap.size 5 i0 (.int .u8 0) 1 1 Tryz.underlying64 hi hz0 hz1 hz2 rfl (by decide) (.slice none 0 0) 0 [] rfl (World.ownsRow_nil _ _ _ _) ⟨w.heap.size, 0, none⟩ 1 1 [B8 128] rfl rfl (by exact cell_one_new _ _ _) (by intro u hu; simp at hu; subst hu; rfl) (by decide) (by decide) (by decide) (by simp) _ rfl ?_; intro g2 cap2 w2 hown2 hgr2 hg2 hlt2; have hb2 : Below w.heap.size w w2 := ((Below.refl _ _).alloc (Nat.le_refl _) _).grown hgr2 (by simp) (fun j hj => by cases hj)))
  have hfb0 : FB w.heap.size w2 (.slice (some ⟨g2, 0, none⟩) 1 cap2) (128 :: List.replicate 0 0) := by
    unfold FB
    simpa using hown2
  clear hown2 hgr2 hg2 hlt2
  go_loopw [3] (fun v wr => ∃ z : Nat, z ≤ 55 ∧ FB w.heap.size wr v (128 :: List.replicate z 0) ∧ Below w.heap.size w wr) (fun v _ => 56 - lenV v)
  case atStart => exact ⟨0, Nat.zero_le _, hfb0, hb2⟩
  case round =>
    obtain ⟨z, hz, hown, hbel⟩ := hrel
    obtain ⟨p, cp, rfl⟩ := hown.form'
    have hsz := hbel.size
    have hlen : (128 :: List.replicate z (0 : UInt8)).length = z + 1 := by simp
    clear hfb0 hb2
    rw [hlen]
    have hown' : FB w.heap.size wr (.slice p (z + 1) cp) (128 :: List.replicate z 0) := by rw [hlen] at hown; exact hown
    have hfo : wr.ownsRow w.heap.size 5 1 (.slice p (z + 1) cp) (z + 1) ((128 :: List.replicate z (0 : UInt8)).map B8) := by have := hown'; unfold FB at this; rw [hlen] at this; exact this
    obtain ⟨N, hN⟩ : ∃ N, N = z + 1 := ⟨_, rfl⟩
    rw [← hN] at hown' hfo hlen ⊢
    have hNb : N ≤ 56 := by omega
    have HN : Hid _ := hN
    have HLEN : Hid _ := hlen
    by_cases hlt : z < 55
    · have hne : ((N : Int) % 64 != 56) = true := by rw [bne_iff_ne]; omega
      clear hN hlen
      go_wp2_with (at_builtin; refine wpList_append_lies _ rfl (.tmp 14) (.tmp 15) 64 rfl w.heap.size 5 i0 (.int .u8 0) 1 1 Tryz.underlying64 hi hz0 hz1 hz2 rfl (by decide) (.slice p N cp) N _ rfl (by exact hfo.alloc _) ⟨wr.heap.size, 0, none⟩ 1 1 [B8 0] rfl rfl (by exact cell_one_new _ _ _) (by intro u hu; simp at hu; subst hu; rfl) (by decide) (by unfold maxLen; omega) (by omega) (by simp; omega) _ rfl ?_; intro g3 cap3 w3 hown3 hgr3 hg3 hlt3)
      go_roundw
      case rel =>
        refine ⟨z + 1, by omega, ?_, (hbel.alloc hbel.size _).grown hgr3 (by simp; omega) (fun j hj => (hfo.lt j hj).1)⟩
        have e : 128 :: List.replicate (z + 1) (0 : UInt8) = (128 :: List.replicate z 0) ++ [0] := by rw [List.replicate_succ']; simp
        unfold FB
        rw [e, List.length_append, List.map_append, HLEN.out]
        exact hown3
      case measure => have := HN.out; simp [lenV]; omega
    · have hne : ((N : Int) % 64 != 56) = false := by rw [bne_eq_false_iff_eq]; omega
      have HB1 : Hid _ := hbel
      obtain ⟨pre, hpre⟩ : ∃ pre, pre = 128 :: List.replicate z (0 : UInt8) := ⟨_, rfl⟩
      rw [← hpre] at hown'
      have HPRE : Hid _ := hpre
      have hprel : pre.length ≤ 64 := by rw [hpre, HLEN.out]; omega
      have hz55 : z = 55 := by omega
      have HZ : Hid _ := hz55
      clear hN hlen hown hpre hz55 hfo
      go_wp2
      go_loopw [3, 5] (fun v b wr => ∃ j : Nat, j ≤ 8 ∧ b = .int .i64 (7 - (j : Int)) ∧ FB w.heap.size wr v (pre ++ List.replicate j 0) ∧ Below w.heap.size w wr) (fun _ b _ => (intOf b + 1).toNat)
      case atStart => exact ⟨0, by omega, rfl, by simpa using hown', HB1.out⟩
      case round =>
        obtain ⟨j, hj, rfl, hown, hbel2⟩ := hrel
        have hsz2 := hbel2.size
        by_cases hjl : j < 8
        · obtain ⟨c, hc⟩ : ∃ c, c = 7 - j := ⟨_, rfl⟩
          have hc' : (7 : Int) - (j : Int) = (c : Int) := by omega
          rw [hc']
          have hc7 : c ≤ 7 := by omega
          have HCC : Hid _ := hc
          have htl : (pre ++ List.replicate j (0 : UInt8)).length ≤ 72 := by rw [List.length_append, List.length_replicate]; omega
          clear hc hc' hown'
          go_wp2_with (at_builtin; refine wpList_append_lies _ rfl (.tmp 25) (.tmp 32) 64 rfl w.heap.size 5 i0 (.int .u8 0) 1 1 Tryz.underlying64 hi hz0 hz1 hz2 rfl (by decide) u3 _ _ rfl (by exact hown.alloc _) ⟨wr.heap.size, 0, none⟩ 1 1 [B8 0] rfl rfl (by exact cell_one_new _ _ _) (by intro u hu; simp at hu; subst hu; rfl) (by decide) (by unfold maxLen; omega) (by omega) (by simp; omega) _ rfl ?_; intro g4 cap4 w4 hown4 hgr4 hg4 hlt4)
          go_roundw
          case rel =>
            refine ⟨j + 1, by omega, by have := HCC.out; go_num, ?_, (hbel2.alloc hbel2.size _).grown hgr4 (by simp; omega) (fun i hi' => (hown.lt i hi').1)⟩
            unfold FB
            rw [List.replicate_succ', ← List.append_assoc, List.length_append, List.map_append]
            simp only [List.length_append, List.length_replicate] at hown4 ⊢
            exact hown4
          case measure => simp [intOf]
        · have h8 : j = 8 := by omega
          subst h8
          have hneg : (7 : Int) - ((8 : Nat) : Int) < 0 := by omega
          have hres : pre ++ List.replicate 8 0 = padL [] := by rw [HPRE.out, HZ.out]; decide
          have hown2 : FB w.heap.size wr u3 (padL []) := by rw [← hres]; exact hown
          clear hres hown
          go_wp2
          go_ret
          exact ⟨_, rfl, hown2, hbel2⟩

set_option maxRecDepth 100000 in
theorem pad_any (v : Value) (l : List UInt8) (w : World) (hr : l.length ≤ 1099511627776) (h : HB w v l) :
    Calls Tryz.prog 57 #[v] w fun e w' => ∃ v, e = .returned v ∧ FB w.heap.size w' v (padL l) ∧ Below w.heap.size w w' := by
  obtain ⟨p, cap, rfl, hn, hc⟩ := h.cells'
  cases p with
  | none =>
    obtain ⟨rfl, rfl⟩ := hn rfl
    exact pad_nil w
  | some a => exact pad_some a cap l w hr (hc a rfl)

end Go.Proofs.YtbmmibmfjhehhaaGreat

/- Contract of wire's Join. -/
namespace Go.Proofs.YtbmmibmfjhehhaaGreat
open Go.RowKit

theorem flat_take (ls : List (List UInt8)) (k : Nat) (h : k < ls.length) : (ls.take (k + 1)).flatten = (ls.take k).flatten ++ ls.getD k [] := by
  rw [List.take_succ_eq_append_getElem h, List.flatten_append]
  simp [List.getD, List.getElem?_eq_getElem h]
theorem flat_le (ls : List (List UInt8)) (k : Nat) : (ls.take k).flatten.length ≤ ls.flatten.length := by
  have h : (ls.take k ++ ls.drop k).flatten = ls.flatten := by rw [List.take_append_drop]
  rw [← h, List.flatten_append, List.length_append]; omega

set_option maxHeartbeats 2000000 in
theorem join_any (g cap : Nat) (ls : List (List UInt8)) (w : World) (hl : ls.length ≤ 1048576) (hr : ls.flatten.length ≤ 1099511627776) (hc : ∀ i, i < ls.length → ∃ u, w.cell? ⟨g, i, none⟩ = some u ∧ HB w u (ls.getD i [])) :
    Calls Tryz.prog 37 #[.slice (some ⟨g, 0, none⟩) ls.length cap] w fun e w' => ∃ v, e = .returned v ∧ FB w.heap.size w' v ls.flatten ∧ Below w.heap.size w w' := by
  obtain ⟨i0, hi, hz0, hz1, hz2⟩ := info_parts Tryz.infoU8
  have HC : Hid _ := hc
  clear hc
  go_enter Tryz.func37, Tryz.ntmps37
  go_wp2
  go_loopw [3, 8] (fun v i wr => ∃ k : Nat, k ≤ ls.length ∧ i = .int .i64 k ∧ FB w.heap.size wr v (ls.take k).flatten ∧ Below w.heap.size w wr) (fun _ i _ => ls.length - (intOf i).toNat)
  case atStart => exact ⟨0, Nat.zero_le _, rfl, World.ownsRow_nil _ _ _ _, Below.refl _ _⟩
  case round =>
    obtain ⟨k, hk, rfl, hown, hbel⟩ := hrel
    have hsz := hbel.size
    by_cases hlt : k < ls.length
    · obtain ⟨u, hu, hbu⟩ := HC.out k hlt
      have hu' : wr.cell? ⟨g, k, none⟩ = some u := (hbel.cell (block_lt hu)).trans hu
      have hbu' := hbu.below hbel
      have hft := flat_take ls k hlt
      have hle := flat_le ls (k + 1)
      rw [hft, List.length_append] at hle
      have HFT : Hid _ := hft
      clear hft hbu hu
      generalize ls.getD k [] = l at *
      generalize (ls.take k).flatten = pl at *
      obtain ⟨p, cp, rfl, hpn, hpc⟩ := hbu'.cells'
      cases p with
      | none =>
        obtain ⟨rfl, rfl⟩ := hpn rfl
        clear hpn hpc hbu'
        go_wp2_with (at_builtin; refine wpList_append_own_none rfl (.tmp 12) (.tmp 13) 64 rfl w.heap.size 5 i0 1 Tryz.underlying64 hi u3 _ _ rfl (by exact hown) rfl ?_)
        go_roundw
        case rel => exact ⟨k + 1, by omega, by go_num, by rw [HFT.out, List.append_nil]; exact hown, hbel⟩
        case measure => simp [intOf]; omega
      | some a =>
        have HPC : Hid _ := hpc a rfl
        clear hpn hpc hbu'
        go_wp2_with (at_builtin; refine wpList_append_own _ rfl (.tmp 12) (.tmp 13) 64 rfl w.heap.size 5 i0 (.int .u8 0) 1 1 Tryz.underlying64 hi hz0 hz1 hz2 rfl (by decide) u3 _ _ rfl (by exact hown) a l.length cp (l.map B8) rfl (by simp) (by exact HPC.out) (B8_one' l) (by unfold maxLen; omega) (by omega) hsz ?_; intro v1 w1 hown1 hgr1 hn1; have hb1 : Below w.heap.size w w1 := hbel.grown hgr1 hsz (fun j hj => (hown.lt j hj).1))
        go_roundw
        case rel =>
          refine ⟨k + 1, by omega, by go_num, ?_, hb1⟩
          rw [HFT.out]
          unfold FB
          rw [List.length_append, List.map_append]
          exact hown1
        case measure => simp [intOf]; omega
    · have ht : ls.take k = ls := List.take_of_length_le (by omega)
      rw [ht] at hown
      clear ht
      go_wp2
      go_ret
      exact ⟨_, rfl, hown, hbel⟩

end Go.Proofs.YtbmmibmfjhehhaaGreat

/- Contracts of sha's padding and Pad. -/
namespace Go.Proofs.YtbmmibmfjhehhaaGreat
open Go.RowKit

def padT (n : Nat) : List UInt8 := 128 :: List.replicate (zeros n) 0 ++ be8 (8 * n)
theorem padL_eq (l : List UInt8) : padL l = l ++ padT l.length := by unfold padL padT; simp
theorem be8_rev (m : Nat) : (W1.le 8 m).reverse = be8 m := by
  apply List.ext_getElem?
  intro i
  have hl := W1.le_length 8 m
  by_cases h : i < 8
  · rw [List.getElem?_reverse (by omega), hl, W1.le_get 8 m _ (by omega)]
    unfold be8
    simp [List.getElem?_map, List.getElem?_range h]
  · rw [List.getElem?_eq_none (by simp [hl]; omega), List.getElem?_eq_none (by simp [be8]; omega)]
theorem HB.alloc {w : World} {v : Value} {l : List UInt8} (h : HB w v l) (o : Obj) : HB (w.alloc o) v l := h.below ((Below.refl _ _).alloc (Nat.le_refl _) o)
theorem HB.drew' {w : World} {v : Value} {l : List UInt8} (h : HB w v l) : HB w.drew v l := h.below (Below.refl _ _).drew
theorem HB.newRow (X : World) (n k : Nat) (hn : n = X.heap.size) (cs : Array Value) (l : List UInt8) (hk : k = l.length) (hcs : cs = (l.map B8).toArray) (hl : l.length ≤ 1099511627776) : HB (X.alloc (.cells cs 5)) (.slice (some ⟨n, 0, none⟩) k k) l := by
  subst hn hk
  refine .inr ⟨_, 0, _, rfl, Nat.le_refl _, by unfold maxLen; omega, fun i hi => ?_⟩
  rw [Nat.zero_add, cell_of_row _ _ i _ _ _ (heap_alloc_new X _), hcs]
  simp [B8, List.getD, List.getElem?_eq_getElem hi]

theorem FB.lower {B B' : Nat} {w : World} {v : Value} {l : List UInt8} (h : FB B w v l) (hB : B' ≤ B) : FB B' w v l := by
  refine ⟨h.1, ?_⟩
  rcases h.2 with h1 | ⟨g, cap, cur, h1, h2, h3⟩
  · exact .inl h1
  · exact .inr ⟨g, cap, cur, h1, Nat.le_trans hB h2, h3⟩
theorem below_alloc {B : Nat} {a w : World} (hB : B ≤ w.heap.size) (h : Below B a w) (o : Obj) : Below B a (w.alloc o) := h.alloc hB o
theorem below_trans {B C : Nat} {a b c : World} (k : Below C b c) (hB : B ≤ C) (h : Below B a b) : Below B a c := h.trans (k.mono hB)
theorem three_cells (X : World) (n : Nat) (a b c : Value) (la lb lc : List UInt8) (hn : n = X.heap.size) (ha : HB (X.alloc (.cells #[a, b, c] 64)) a la) (hb : HB (X.alloc (.cells #[a, b, c] 64)) b lb) (hc : HB (X.alloc (.cells #[a, b, c] 64)) c lc) :
    ∀ i, i < [la, lb, lc].length → ∃ u, (X.alloc (.cells #[a, b, c] 64)).cell? ⟨n, i, none⟩ = some u ∧ HB (X.alloc (.cells #[a, b, c] 64)) u ([la, lb, lc].getD i []) := by
  intro i hi
  subst hn
  rcases (show i = 0 ∨ i = 1 ∨ i = 2 by simp at hi; omega) with rfl | rfl | rfl
  · exact ⟨a, cell_of_row _ _ 0 _ _ _ (heap_alloc_new X _), ha⟩
  · exact ⟨b, cell_of_row _ _ 1 _ _ _ (heap_alloc_new X _), hb⟩
  · exact ⟨c, cell_of_row _ _ 2 _ _ _ (heap_alloc_new X _), hc⟩

theorem join_under (B g cap : Nat) (ls : List (List UInt8)) (w0 w : World) (hX : Below B w0 w) (hB : B ≤ w.heap.size) (hl : ls.length ≤ 1048576) (hr : ls.flatten.length ≤ 1099511627776) (hc : ∀ i, i < ls.length → ∃ u, w.cell? ⟨g, i, none⟩ = some u ∧ HB w u (ls.getD i [])) :
    Calls Tryz.prog 37 #[.slice (some ⟨g, 0, none⟩) ls.length cap] w fun e w' => ∃ v, e = .returned v ∧ FB B w' v ls.flatten ∧ Below B w0 w' := by
  refine (join_any g cap ls w hl hr hc).mono ?_
  rintro e w' ⟨v, rfl, h1, h2⟩
  exact ⟨v, rfl, h1.lower hB, hX.trans (h2.mono hB)⟩

set_option maxHeartbeats 4000000 in
theorem padding_any (n : Nat) (w : World) (hn : n ≤ 1099511627776) :
    Calls Tryz.prog 101 #[.int .i64 (n : Int)] w fun e w' => ∃ v, e = .returned v ∧ FB w.heap.size w' v (padT n) ∧ Below w.heap.size w w' := by
  obtain ⟨i0, hi, hz0, hz1, hz2⟩ := info_parts Tryz.infoU8
  have hZ : zeros n = 63 - (n + 8) % 64 := by unfold zeros; omega
  obtain ⟨Z, hZZ⟩ : ∃ Z, Z = zeros n := ⟨_, rfl⟩
  have hZ1 : (63 : Int) - ((n : Int) + 8) % 64 = (Z : Int) := by omega
  have hZ2 : Z ≤ 63 := by omega
  obtain ⟨ZA, hZA⟩ : ∃ ZA, ZA = madeCells #[.int .u8 0] Z := ⟨_, rfl⟩
  have hZL : ZA = ((List.replicate Z (0 : UInt8)).map B8).toArray := by
    rw [← Array.toList_inj, hZA, toList_madeCells_one]; simp [B8]
  have hmk : ∀ W, (Instr.makeSlice 64 (.int .i64 (Z : Int)) (.int .i64 (Z : Int))).run Tryz.prog W = .ok (.slice (some ⟨W.heap.size, 0, none⟩) Z Z) (W.alloc (.cells ZA 5)) := fun W => by
    rw [run_make W 64 5 i0 (.int .u8 0) Tryz.underlying64 hi hz0 .i64 .i64 _ _ (by omega) (by omega) (by rw [hz2]; omega) (by omega), hz1, Int.toNat_natCast, Nat.mul_one, hZA]
    rfl
  have hput := put_ok (8 * n) 8 
  have hpt : padT n = [([128] : List UInt8), List.replicate Z 0, (W1.le 8 (8 * n)).reverse].flatten := by rw [be8_rev, hZZ]; unfold padT; simp
  have h8n : ((8 * n : Nat) : Int) = 8 * (n : Int) := by omega
  have HZL : Hid _ := hZL
  have HPT : Hid _ := hpt
  have hfl : [([128] : List UInt8), List.replicate Z 0, (W1.le 8 (8 * n)).reverse].flatten.length ≤ 1099511627776 := by simp [W1.le_length]; omega
  have HFL : Hid _ := hfl
  have hpw := fun W => put_ok (8 * n) 8 W (by decide) (by decide) (by omega) (by show 8 * n < 18446744073709551616; omega)
  rw [h8n] at hpw
  have hLl : (W1.le 8 (8 * n)).length = 8 := W1.le_length _ _
  generalize W1.le 8 (8 * n) = L at *
  have HLL : Hid _ := hLl
  clear hZ hZZ hZA hZL hput hpt h8n hfl hi hz0 hz1 hz2 hLl
  go_enter Tryz.func101, Tryz.ntmps101
  go_wp2_with fail
  refine (hpw _).mono ?_
  rintro e w1 ⟨rfl, hfb, hb1⟩
  have hhb := hfb.hb
  have HHB : Hid _ := hhb
  have hs1 := hb1.size
  clear hpw hfb hhb
  go_wp2
  go_region_with (first
    | (go_at_call 109; refine (turned_any (.slice (some ⟨w.heap.size, 0, none⟩) 8 8) L _ (by rw [HLL.out]; decide) (by repeat (first | exact HHB.out | refine HB.alloc ?_ _ | refine HB.drew' ?_))).mono ?_; rintro e wt ⟨rfl, hfT, hbT⟩; have hT' := hfT.hb; clear hfT; (try rw [HLL.out] at hT'); simp at hT'; rw [HLL.out])
    | (go_at_call 37; refine (join_under w.heap.size _ _ [[128], List.replicate Z 0, L.reverse] w _ ?_ ?_ (by simp) HFL.out ?_).mono ?_; (focus (repeat (first | with_reducible exact hb1 | (with_reducible refine Below.drew ?_) | ((with_reducible refine below_alloc ?_ ?_ _); (first | (focus (simp; omega)) | (focus (simp; done)) | (have := hbT.size; simp at this ⊢; omega))) | ((with_reducible refine below_trans hbT ?_ ?_); (first | (focus (simp; omega)) | (focus (simp; done))))))); (first | (focus (simp; omega)) | (focus (simp; done)) | (have := hbT.size; simp at this ⊢; omega)); (refine three_cells _ _ _ _ _ _ _ _ ?_ ?_ ?_ ?_; (focus (simp; done)); (focus (repeat (first | ((with_reducible refine HB.newRow _ _ _ ?_ _ _ ?_ ?_ ?_); (focus (simp; done)); rfl; rfl; decide) | (with_reducible refine HB.alloc ?_ _) | (with_reducible refine HB.drew' ?_) | (with_reducible refine HB.below ?_ hbT)))); (focus (repeat (first | ((with_reducible refine HB.newRow _ _ _ ?_ _ _ ?_ ?_ ?_); (focus (simp; done)); (focus (simp; done)); exact HZL.out; (focus (simp; omega))) | (with_reducible refine HB.alloc ?_ _) | (with_reducible refine HB.drew' ?_) | (with_reducible refine HB.below ?_ hbT)))); (focus (repeat (first | with_reducible exact hT' | (with_reducible refine HB.alloc ?_ _) | (with_reducible refine HB.drew' ?_) | (with_reducible refine HB.below ?_ hbT))))); rintro e wj ⟨vj, rfl, hfJ, hbJ⟩))
  all_goals
    go_wp2
    go_ret
    rw [HPT.out]
    exact ⟨_, rfl, hfJ, hbJ⟩

end Go.Proofs.YtbmmibmfjhehhaaGreat

/- Contract of sha's Pad. -/
namespace Go.Proofs.YtbmmibmfjhehhaaGreat
open Go.RowKit

theorem two_cells (X : World) (n : Nat) (a b : Value) (la lb : List UInt8) (hn : n = X.heap.size) (ha : HB (X.alloc (.cells #[a, b] 64)) a la) (hb : HB (X.alloc (.cells #[a, b] 64)) b lb) :
    ∀ i, i < [la, lb].length → ∃ u, (X.alloc (.cells #[a, b] 64)).cell? ⟨n, i, none⟩ = some u ∧ HB (X.alloc (.cells #[a, b] 64)) u ([la, lb].getD i []) := by
  intro i hi
  subst hn
  rcases (show i = 0 ∨ i = 1 by simp at hi; omega) with rfl | rfl
  · exact ⟨a, cell_of_row _ _ 0 _ _ _ (heap_alloc_new X _), ha⟩
  · exact ⟨b, cell_of_row _ _ 1 _ _ _ (heap_alloc_new X _), hb⟩

set_option maxHeartbeats 1000000 in
theorem shaPad_any (v : Value) (l : List UInt8) (w : World) (hr : l.length ≤ 4294967296) (h : HB w v l) :
    Calls Tryz.prog 85 #[v] w fun e w' => ∃ v', e = .returned v' ∧ FB w.heap.size w' v' (padL l) ∧ Below w.heap.size w w' := by
  have HV : Hid _ := h
  obtain ⟨p, cap, rfl, _, _⟩ := h.cells'
  have hfl : [l, padT l.length].flatten.length ≤ 1099511627776 := by
    unfold padT zeros; simp [be8]; omega
  have HFL : Hid _ := hfl
  have HPL : Hid _ := show padL l = [l, padT l.length].flatten by rw [padL_eq]; simp
  clear h hfl
  go_enter Tryz.func85, Tryz.ntmps85
  go_wp2_with fail
  refine (padding_any l.length _ (by omega)).mono ?_
  rintro e w1 ⟨v1, rfl, hf1, hb1⟩
  have hs1 := hb1.size
  have HV1 : Hid _ := HB.below HV.out hb1
  obtain ⟨p1, c1, rfl⟩ := hf1.form'
  have HF1 : Hid _ := hf1.hb
  clear hf1
  go_wp2_with fail
  refine (join_under w.heap.size _ _ [l, padT l.length] w _ (below_alloc (by omega) hb1 _) (by simp; omega) (by simp) HFL.out (two_cells _ _ _ _ _ _ rfl (HB.alloc HV1.out _) (HB.alloc HF1.out _))).mono ?_
  rintro e wj ⟨vj, rfl, hfJ, hbJ⟩
  go_wp2
  go_ret
  rw [HPL.out]
  exact ⟨_, rfl, hfJ, hbJ⟩

end Go.Proofs.YtbmmibmfjhehhaaGreat

/- The reference's roots and primes, and its constants. -/
namespace Go.Proofs.YtbmmibmfjhehhaaGreat
open Go.RowKit

def powB (n x p : Nat) : Bool := if n = 2 then decide (x * x ≤ p * 18446744073709551616) else decide (x * x * x ≤ p * Q96)
def rto (n p : Nat) : Nat → Nat
  | 0 => 0
  | j + 1 => if powB n (rto n p j + 2 ^ (37 - j)) p then rto n p j + 2 ^ (37 - j) else rto n p j

theorem rto_bound (n p j : Nat) (hj : j ≤ 38) : rto n p j + 2 ^ (38 - j) ≤ 2 ^ 38 := by
  induction j with
  | zero => simp [rto]
  | succ j ih =>
    have h1 := ih (by omega)
    have e : 2 ^ (38 - j) = 2 ^ (37 - j) + 2 ^ (37 - j) := by rw [show 38 - j = (37 - j) + 1 by omega, Nat.pow_succ]; omega
    rw [show 38 - (j + 1) = 37 - j by omega]
    have hp : 0 < 2 ^ (37 - j) := Nat.pow_pos (by decide)
    simp only [rto]
    split <;> omega

theorem power_any (n x p : Nat) (X : Int) (hX : X = (x : Int)) (hn : n = 2 ∨ n = 3) (hx : x < 274877906944) (hp : p < 4294967296) (w : World) :
    Calls Tryz.prog 90 #[.int .u64 X, .int .i64 (n : Int), .int .u64 (p : Int)] w fun e w' => e = .returned (.bool (powB n x p)) ∧ w = w' := by
  subst hX
  rcases hn with rfl | rfl
  · exact power2_any x p hx hp w
  · exact power3_any x p hx hp w

set_option maxHeartbeats 1000000 in
theorem root_any (p n : Nat) (hn : n = 2 ∨ n = 3) (hp : p < 4294967296) (w : World) :
    Calls Tryz.prog 73 #[.int .u64 (p : Int), .int .i64 (n : Int)] w fun e w' => e = .returned (.int .u32 (U (UInt32.ofNat (rto n p 38)))) ∧ w = w' := by
  have HN : Hid _ := hn
  clear hn
  go_enter Tryz.func73, Tryz.ntmps73
  go_wp2
  go_loop [5, 6] (fun x b => ∃ j : Nat, j ≤ 38 ∧ x = .int .u64 (rto n p j : Int) ∧ b = .int .i64 (37 - (j : Int))) (fun _ b => (intOf b + 1).toNat)
  case atStart => exact ⟨0, by omega, rfl, rfl⟩
  case round =>
    obtain ⟨j, hj, rfl, rfl⟩ := hrel
    have hb := rto_bound n p j hj
    by_cases hlt : j < 38
    · obtain ⟨c, hc⟩ : ∃ c, c = 37 - j := ⟨_, rfl⟩
      have hc' : (37 : Int) - (j : Int) = (c : Int) := by omega
      rw [hc']
      have hc37 : c ≤ 37 := by omega
      have hpw : 2 ^ c ≤ 137438953472 := Nat.pow_le_pow_right (n := 2) (by decide) hc37
      have hlt2 : rto n p j + 2 ^ c < 274877906944 := by
        have : 2 ^ (38 - j) = 2 ^ c + 2 ^ c := by rw [show 38 - j = c + 1 by omega, Nat.pow_succ]; omega
        have : 0 < 2 ^ c := Nat.pow_pos (by decide)
        omega
      have hstep : rto n p (j + 1) = if powB n (rto n p j + 2 ^ c) p then rto n p j + 2 ^ c else rto n p j := by rw [hc]; rfl
      have HST : Hid _ := hstep
      have HCC : Hid _ := hc
      clear hstep hc hc' hb
      generalize rto n p j = x at *
      have hcast : (2 : Int) ^ c = ((2 ^ c : Nat) : Int) := by simp
      obtain ⟨q, hq⟩ : ∃ q, q = 2 ^ c := ⟨_, rfl⟩
      rw [← hq] at hpw hlt2 hcast
      have HQ : Hid _ := hq
      have hst2 := HST.out
      rw [← hq] at hst2
      have HST2 : Hid _ := hst2
      clear hq hst2 HST
      cases hpb : powB n (x + q) p with
      | true =>
        go_wp2_with (go_at_call 90; refine (power_any n (x + q) p _ (by omega) HN.out hlt2 hp _).mono ?_; rintro e wx ⟨rfl, rfl⟩)
        go_round
        case rel =>
          have h1 := HST2.out
          rw [hpb, if_pos rfl] at h1
          exact ⟨j + 1, by omega, by rw [h1]; go_num, by have := HCC.out; go_num⟩
        case measure => simp [intOf]
      | false =>
        go_wp2_with (go_at_call 90; refine (power_any n (x + q) p _ (by omega) HN.out hlt2 hp _).mono ?_; rintro e wx ⟨rfl, rfl⟩)
        go_round
        case rel =>
          have h1 := HST2.out
          rw [hpb, if_neg (by decide)] at h1
          exact ⟨j + 1, by omega, by rw [h1], by have := HCC.out; go_num⟩
        case measure => simp [intOf]
    · have h38 : j = 38 := by omega
      have hj' : (37 : Int) - (j : Int) < 0 := by omega
      have HJ : Hid _ := h38
      clear h38
      go_wp2
      go_ret
      refine ⟨ret_int ?_, rfl⟩
      rw [← HJ.out]
      unfold U
      rw [nat_ofNat]
      simp [IntKind.wrap_u32]

def prim (i : Nat) : Nat := P64.getD i 0
def noDiv (n k : Nat) : Bool := (List.range k).all fun j => decide (j < 2) || n % j != 0
def isP (n : Nat) : Bool := decide (2 ≤ n) && noDiv n n
def cnt : Nat → Nat
  | 0 => 0
  | n + 1 => cnt n + if isP (n + 1) then 1 else 0
theorem noDiv_succ (n k : Nat) (h : 2 ≤ k) : noDiv n (k + 1) = (noDiv n k && (n % k != 0)) := by
  unfold noDiv; rw [List.range_succ, List.all_append]
  simp only [List.all_cons, List.all_nil, Bool.and_true]
  rw [decide_eq_false (show ¬ k < 2 by omega)]; rfl
theorem noDiv_two (n : Nat) : noDiv n 2 = true := by simp [noDiv, List.range_succ]
theorem tabA : ((List.range 312).all fun n => (List.range 19).all fun k => !(decide (2 ≤ n) && decide (2 ≤ k) && decide (n < k * k) && (decide (k = 2) || decide ((k - 1) * (k - 1) ≤ n))) || (noDiv n k == isP n)) = true := by decide +kernel
theorem tabB : ((List.range 312).all fun n => !(isP n) || (P64.getD (cnt n - 1) 0 == n)) = true := by decide +kernel
theorem tabC : ((List.range 312).all fun n => decide (n = 311) || decide (cnt n ≤ 63)) = true ∧ cnt 311 = 64 := by decide +kernel
theorem isP_of (n k : Nat) (h2 : 2 ≤ n) (hn : n ≤ 311) (hk : 2 ≤ k) (h1 : n < k * k) (h3 : k = 2 ∨ (k - 1) * (k - 1) ≤ n) : noDiv n k = isP n := by
  have hk18 : k ≤ 18 := by
    rcases Nat.lt_or_ge k 19 with h | h
    · omega
    · rcases h3 with h3 | h3
      · omega
      · have : 18 * 18 ≤ (k - 1) * (k - 1) := Nat.mul_le_mul (by omega) (by omega)
        omega
  have t := tabA
  rw [List.all_eq_true] at t
  have t1 := t n (List.mem_range.2 (by omega))
  rw [List.all_eq_true] at t1
  have t2 := t1 k (List.mem_range.2 (by omega))
  have t3 : ¬k = 2 ∧ n < (k - 1) * (k - 1) ∨ noDiv n k = isP n := by simpa [h2, hk, h1] using t2
  rcases t3 with ⟨t4, t5⟩ | t4
  · rcases h3 with h3 | h3
    · exact absurd h3 t4
    · omega
  · exact t4
theorem cnt_small (n : Nat) (hn : n ≤ 311) (h : cnt n ≤ 63) : n ≤ 310 := by
  rcases Nat.lt_or_ge n 311 with h1 | h1
  · omega
  · have : n = 311 := by omega
    subst this
    have := tabC.2
    omega
theorem prime_is (n : Nat) (hn : n ≤ 311) (h : isP n = true) : prim (cnt n - 1) = n := by
  have t := tabB
  rw [List.all_eq_true] at t
  have t1 := t n (List.mem_range.2 (by omega))
  unfold prim
  simpa [h] using t1

set_option maxHeartbeats 1000000 in
theorem prime_any (i0 : Nat) (h0 : i0 ≤ 63) (w : World) :
    Calls Tryz.prog 74 #[.int .i64 (i0 : Int)] w fun e w' => e = .returned (.int .u64 (prim i0 : Int)) ∧ w = w' := by
  go_enter Tryz.func74, Tryz.ntmps74
  go_wp2
  go_loop [0, 3] (fun a b => ∃ (i : Int) (n : Nat), a = .int .i64 i ∧ b = .int .u64 n ∧ -1 ≤ i ∧ i + cnt n = i0 ∧ 1 ≤ n ∧ n ≤ 311 ∧ (i = -1 → isP n = true)) (fun _ b => 311 - (intOf b).toNat)
  case atStart => exact ⟨i0, 1, rfl, rfl, by omega, by simp [show cnt 1 = 0 by decide], by omega, by omega, by omega⟩
  case round =>
    obtain ⟨i, n, rfl, rfl, hi, hc, hn1, hn2, hp⟩ := hrel
    have HC : Hid _ := hc
    have HP : Hid _ := hp
    by_cases hlt : 0 ≤ i
    · have hn310 := cnt_small n hn2 (by omega)
      have hi63 : i ≤ 63 := by omega
      clear hc hp
      obtain ⟨m, hm⟩ : ∃ m : Nat, m = n + 1 := ⟨_, rfl⟩
      have hm' : (n : Int) + 1 = (m : Int) := by omega
      have hm2 : 2 ≤ m := by omega
      have hm311 : m ≤ 311 := by omega
      have HM : Hid _ := hm
      have HM' : Hid _ := hm'
      clear hm hm'
      go_wp2
      rw [HM'.out]
      go_loop [4, 5] (fun a b => ∃ k : Nat, a = .bool (noDiv m k) ∧ b = .int .u64 k ∧ 2 ≤ k ∧ k ≤ 18 ∧ (k = 2 ∨ (k - 1) * (k - 1) ≤ m)) (fun _ b => 19 - (intOf b).toNat)
      case atStart => exact ⟨2, by rw [noDiv_two], rfl, by omega, by omega, .inl rfl⟩
      case round =>
        obtain ⟨k, rfl, rfl, hk2, hk18, hk3⟩ := hrel
        have HK3 : Hid _ := hk3
        obtain ⟨sq, hsq⟩ : ∃ sq, sq = k * k := ⟨_, rfl⟩
        have hsqb : sq ≤ 324 := by rw [hsq]; exact Nat.mul_le_mul hk18 hk18
        have hmul : (k : Int) * (k : Int) = (sq : Int) := by rw [hsq]; simp
        have HSQ : Hid _ := hsq
        clear hk3 hsq
        by_cases hin : sq ≤ m
        · have hns := noDiv_succ m k hk2
          have hk17 : k ≤ 17 := by
            rcases Nat.lt_or_ge k 18 with h | h
            · omega
            · have := HSQ.out; have : k = 18 := by omega
              subst this; omega
          have hrem : ((m : Int) % (k : Int) != 0) = (m % k != 0) := by
            rw [← Int.natCast_emod, Bool.eq_iff_iff]; simp; omega
          have HNS : Hid _ := hns
          clear hns
          cases hnd : noDiv m k with
          | true =>
            go_wp2
            go_round
            case rel => exact ⟨k + 1, by rw [HNS.out, hnd]; simp, by go_num, by omega, by omega, .inr (by have := HSQ.out; simp; omega)⟩
            case measure => simp [intOf]; omega
          | false =>
            go_wp2
            go_round
            case rel => exact ⟨k + 1, by rw [HNS.out, hnd]; simp, by go_num, by omega, by omega, .inr (by have := HSQ.out; simp; omega)⟩
            case measure => simp [intOf]; omega
        · have hp2 := isP_of m k hm2 hm311 hk2 (by have := HSQ.out; omega) HK3.out
          have hcs : cnt m = cnt n + if isP m then 1 else 0 := by rw [HM.out]; rfl
          rw [hp2]
          have HCS : Hid _ := hcs
          clear hp2 hcs
          cases hisp : isP m with
          | true =>
            go_wp2
            go_round
            case rel =>
              have h1 := HCS.out
              have h2 := HC.out
              rw [hisp, if_pos rfl] at h1
              exact ⟨i - 1, m, by go_num, rfl, by omega, by omega, by omega, by omega, fun _ => hisp⟩
            case measure => have := HM.out; simp [intOf]; omega
          | false =>
            go_wp2
            go_round
            case rel =>
              have h1 := HCS.out
              have h2 := HC.out
              rw [hisp, if_neg (by decide)] at h1
              exact ⟨i, m, rfl, rfl, by omega, by omega, by omega, by omega, by omega⟩
            case measure => have := HM.out; simp [intOf]; omega
    · have hm1 : i = -1 := by omega
      have hpr := prime_is n hn2 (hp hm1)
      have hcn : cnt n - 1 = i0 := by omega
      rw [hcn] at hpr
      have HPR : Hid _ := hpr
      clear hc hp hm1 hpr hcn
      go_wp2
      go_ret
      exact ⟨ret_int (by rw [HPR.out]), rfl⟩

end Go.Proofs.YtbmmibmfjhehhaaGreat

/- Contracts of the reference's Constant, Start and Constants. -/
namespace Go.Proofs.YtbmmibmfjhehhaaGreat
open Go.RowKit

def konst (i : Int) : UInt32 := if 0 ≤ i ∧ i ≤ 63 then K64.getD i.toNat 0 else 0
def start (i : Int) : UInt32 := if 0 ≤ i ∧ i ≤ 7 then H8.getD i.toNat 0 else 0
theorem tabK : ((List.range 64).all fun i => UInt32.ofNat (rto 3 (prim i) 38) == K64.getD i 0) = true := by decide +kernel
theorem tabH : ((List.range 8).all fun i => UInt32.ofNat (rto 2 (prim i) 38) == H8.getD i 0) = true := by decide +kernel
theorem tabP : ((List.range 64).all fun i => decide (prim i < 4294967296)) = true := by decide +kernel
theorem konst_in (i : Nat) (h : i ≤ 63) : UInt32.ofNat (rto 3 (prim i) 38) = konst (i : Int) := by
  have t := tabK
  rw [List.all_eq_true] at t
  have t1 := t i (List.mem_range.2 (by omega))
  unfold konst
  rw [if_pos (by omega), Int.toNat_natCast]
  simpa using t1
theorem start_in (i : Nat) (h : i ≤ 7) : UInt32.ofNat (rto 2 (prim i) 38) = start (i : Int) := by
  have t := tabH
  rw [List.all_eq_true] at t
  have t1 := t i (List.mem_range.2 (by omega))
  unfold start
  rw [if_pos (by omega), Int.toNat_natCast]
  simpa using t1
theorem prim_lt (i : Nat) (h : i ≤ 63) : prim i < 4294967296 := by
  have t := tabP
  rw [List.all_eq_true] at t
  simpa using t i (List.mem_range.2 (by omega))
theorem konst_out (i : Int) (h : i < 0 ∨ 63 < i) : konst i = 0 := by unfold konst; rw [if_neg (by omega)]
theorem start_out (i : Int) (h : i < 0 ∨ 7 < i) : start i = 0 := by unfold start; rw [if_neg (by omega)]

set_option maxHeartbeats 400000 in
theorem constant_any (i : Int) (w : World) : Calls Tryz.prog 75 #[.int .i64 i] w fun e w' => e = .returned (.int .u32 (U (konst i))) ∧ w = w' := by
  by_cases h : 0 ≤ i ∧ i ≤ 63
  · obtain ⟨h1, h2⟩ := h
    obtain ⟨n, rfl⟩ := Int.eq_ofNat_of_zero_le h1
    have hn : n ≤ 63 := by omega
    go_enter Tryz.func75, Tryz.ntmps75
    go_wp2_with fail
    refine (prime_any n hn _).mono ?_
    rintro e wx ⟨rfl, rfl⟩
    go_wp2_with fail
    refine (root_any (prim n) 3 (.inr rfl) (prim_lt n hn) _).mono ?_
    rintro e wx ⟨rfl, rfl⟩
    rw [konst_in n hn]
    go_wp2
    go_ret
    exact ⟨rfl, rfl⟩
  · have hk := konst_out i (by omega)
    have HK : Hid _ := hk
    clear hk
    by_cases h1 : i < 0
    · go_enter Tryz.func75, Tryz.ntmps75
      go_wp2
      go_ret
      exact ⟨ret_int (by rw [HK.out]; rfl), rfl⟩
    · have h2 : 63 < i := by omega
      clear h
      go_enter Tryz.func75, Tryz.ntmps75
      go_wp2
      go_ret
      exact ⟨ret_int (by rw [HK.out]; rfl), rfl⟩

set_option maxHeartbeats 400000 in
theorem start_any (i : Int) (w : World) : Calls Tryz.prog 55 #[.int .i64 i] w fun e w' => e = .returned (.int .u32 (U (start i))) ∧ w = w' := by
  by_cases h : 0 ≤ i ∧ i ≤ 7
  · obtain ⟨h1, h2⟩ := h
    obtain ⟨n, rfl⟩ := Int.eq_ofNat_of_zero_le h1
    have hn : n ≤ 7 := by omega
    go_enter Tryz.func55, Tryz.ntmps55
    go_wp2_with fail
    refine (prime_any n (by omega) _).mono ?_
    rintro e wx ⟨rfl, rfl⟩
    go_wp2_with fail
    refine (root_any (prim n) 2 (.inl rfl) (prim_lt n (by omega)) _).mono ?_
    rintro e wx ⟨rfl, rfl⟩
    rw [start_in n hn]
    go_wp2
    go_ret
    exact ⟨rfl, rfl⟩
  · have hk := start_out i (by omega)
    have HK : Hid _ := hk
    clear hk
    by_cases h1 : i < 0
    · go_enter Tryz.func55, Tryz.ntmps55
      go_wp2
      go_ret
      exact ⟨ret_int (by rw [HK.out]; rfl), rfl⟩
    · have h2 : 7 < i := by omega
      clear h
      go_enter Tryz.func55, Tryz.ntmps55
      go_wp2
      go_ret
      exact ⟨ret_int (by rw [HK.out]; rfl), rfl⟩

theorem K64_take (k : Nat) (h : k < 64) : K64.take (k + 1) = K64.take k ++ [konst (k : Int)] := by
  have hl : k < K64.length := h
  rw [List.take_succ_eq_append_getElem hl]
  unfold konst
  rw [if_pos (by omega), Int.toNat_natCast]
  simp [List.getD, List.getElem?_eq_getElem hl]

set_option maxHeartbeats 400000 in
set_option maxRecDepth 100000 in
theorem constants_any (w : World) : Calls Tryz.prog 56 #[] w fun e w' => ∃ v, e = .returned v ∧ FW w.heap.size w' v K64 ∧ Below w.heap.size w w' := by
  obtain ⟨i0, hi, hz0, hz1, hz2⟩ := info_parts Tryz.infoU32
  go_enter Tryz.func56, Tryz.ntmps56
  go_wp2
  go_loopw [1, 2] (fun v i wr => ∃ k : Nat, k ≤ 64 ∧ i = .int .i64 k ∧ FW w.heap.size wr v (K64.take k) ∧ Below w.heap.size w wr) (fun _ i _ => 64 - (intOf i).toNat)
  case atStart => exact ⟨0, by omega, rfl, World.ownsRow_nil _ _ _ _, Below.refl _ _⟩
  case round =>
    obtain ⟨k, hk, rfl, hown, hbel⟩ := hrel
    have hsz := hbel.size
    by_cases hlt : k < 64
    · have HK : Hid _ := K64_take k hlt
      have hlen : (K64.take k).length ≤ 64 := by rw [List.length_take]; omega
      go_wp2_with (first
        | (go_at_call 75; refine (constant_any _ _).mono ?_; rintro e wx ⟨rfl, rfl⟩)
        | (at_builtin; refine wpList_append_lies _ rfl (.tmp 7) (.tmp 10) 104 rfl w.heap.size 101 i0 (.int .u32 0) 1 4 Tryz.underlying104 hi hz0 hz1 hz2 rfl (by decide) u1 _ _ rfl (by exact hown.alloc _) ⟨wr.heap.size, 0, none⟩ 1 1 [W32 (konst (k : Int))] rfl rfl (by exact cell_one_new _ _ _) (by intro u hu; simp at hu; subst hu; rfl) (by decide) (by unfold maxLen; omega) (by omega) (by simp; omega) _ rfl ?_; intro g cap' w1 hown1 hgr1 hg1 hlt1))
      go_roundw
      case rel =>
        refine ⟨k + 1, by omega, by go_num, ?_, (hbel.alloc hbel.size _).grown hgr1 (by simp; omega) (fun j hj => (hown.lt j hj).1)⟩
        unfold FW
        rw [HK.out, List.length_append, List.map_append]
        simp only [List.length_take] at hown1 ⊢
        exact hown1
      case measure => simp [intOf]; omega
    · have h64 : K64.take k = K64 := List.take_of_length_le (by show 64 ≤ k; omega)
      rw [h64] at hown
      clear h64
      go_wp2
      go_ret
      exact ⟨_, rfl, hown, hbel⟩

end Go.Proofs.YtbmmibmfjhehhaaGreat
