/- Contract of wire's Pack. -/
import Derived.Test.YtojafgilpnnbiabG1
import Derived.Laws.AppendOwnNone
set_option linter.unusedVariables false
set_option linter.unusedSimpArgs false
namespace Go.Proofs.Ytojafgilpnnbiab
open Go.RowKit

/-- The value v is a slice of slices of these bytes. -/
def HL (w : World) (v : Value) (ls : List (List UInt8)) : Prop :=
  (ls = [] ∧ ∃ p cap, v = .slice p 0 cap ∧ (p = none → cap = 0)) ∨ ∃ b o cap, v = .slice (some ⟨b, o, none⟩) ls.length cap ∧ ls.length ≤ cap ∧ cap ≤ maxLen ∧ ∀ i, (h : i < ls.length) → ∃ u, w.cell? ⟨b, o + i, none⟩ = some u ∧ HB w u ls[i]

theorem HL.below {w w' : World} {v : Value} {ls : List (List UInt8)} (h : HL w v ls) (hb : Below w.heap.size w w') : HL w' v ls := by
  rcases h with ⟨h1, h2⟩ | ⟨b, o, cap, h1, h2, h3, h4⟩
  · exact .inl ⟨h1, h2⟩
  · refine .inr ⟨b, o, cap, h1, h2, h3, fun i hi => ?_⟩
    obtain ⟨u, hc, hu⟩ := h4 i hi
    exact ⟨u, by rw [hb.cell (p := ⟨b, o + i, none⟩) (block_lt hc)]; exact hc, hu.below hb⟩

theorem FB.below {base : Nat} {w w' : World} {v : Value} {l : List UInt8} (h : FB base w v l) (hb : Below w.heap.size w w') : FB base w' v l := by
  obtain ⟨h1, h2⟩ := h
  refine ⟨h1, ?_⟩
  rcases h2 with h2 | ⟨g, cap, cur, hv, hg, hh, r⟩
  · exact .inl h2
  · have hlt : g < w.heap.size := by
      rcases Nat.lt_or_ge g w.heap.size with h | h
      · exact h
      · rw [Array.getElem?_eq_none h] at hh; cases hh
    exact .inr ⟨g, cap, cur, hv, hg, by rw [hb.block g hlt]; exact hh, r⟩

/-- The cells of bytes at an address. -/
theorem HB.news {w : World} {a : Addr} {n cap : Nat} {l : List UInt8} (h : HB w (.slice (some a) n cap) l) : ∀ (j : Nat) u, (l.map B8)[j]? = some u → w.cell? (a.add j) = some u := by
  obtain ⟨p, c, hv, _, hc⟩ := h.cells
  simp only [Value.slice.injEq] at hv
  exact hc a hv.1.symm

theorem FB.grown {base : Nat} {w w' : World} {v : Value} {l : List UInt8} {row : Option Nat} (h : FB base w v l) (hg : w.grownBy w' row) (hne : v.ownBlock = none ∨ v.ownBlock ≠ row) : FB base w' v l := World.ownsRow.kept h hg hne

namespace W1
def frame (l : List UInt8) : List UInt8 := le 4 l.length ++ l
def pack (ls : List (List UInt8)) : List UInt8 := ls.flatMap frame
def mayPack (ls : List (List UInt8)) : Prop := ls.length ≤ 64 ∧ ∀ l ∈ ls, l.length ≤ 65536
theorem mayPack_nil : mayPack [] := ⟨by decide, by simp⟩
theorem pack_take_succ (ls : List (List UInt8)) (k : Nat) (h : k < ls.length) : pack (ls.take (k + 1)) = pack (ls.take k) ++ le 4 ls[k].length ++ ls[k] := by
  simp only [pack]; rw [List.take_succ_eq_append_getElem h, List.flatMap_append]; simp [frame]
theorem pack_len (ls : List (List UInt8)) (h : ∀ l ∈ ls, l.length ≤ 65536) : (pack ls).length ≤ ls.length * 65540 := by
  induction ls with
  | nil => simp [pack]
  | cons x r ih =>
    have h1 := ih (fun l hl => h l (by simp [hl]))
    have h2 := h x (by simp)
    simp only [pack, List.flatMap_cons, List.length_append, frame, le_length, List.length_cons] at *
    omega
end W1

/-- What Pack answers. -/
def PackEnd (base : Nat) (w' : World) (ls : List (List UInt8)) (e : Ending) : Prop :=
  (W1.mayPack ls → ∃ v, e = .returned (.tuple #[v, .int .i64 0]) ∧ FB base w' v (W1.pack ls)) ∧ (¬ W1.mayPack ls → e = .returned (.tuple #[.slice none 0 0, .int .i64 2]))

set_option maxHeartbeats 1000000 in
theorem pack_any (v : Value) (ls : List (List UInt8)) (w : World) (hr : ls.length ≤ 140737488351232) (h : HL w v ls) :
    Calls Try.prog 39 #[v] w fun e w' => Below w.heap.size w w' ∧ PackEnd w.heap.size w' ls e := by
  obtain ⟨i0, hi, hz0, hz1, hz2⟩ := info_parts Try.infoU8
  rcases h with ⟨rfl, p, cap, rfl, hpc⟩ | ⟨b, o, cap, rfl, hlc, hcm, hc⟩
  · go_enter Try.func39, Try.ntmps39
    go_wp2
    refine wp_loop_rounds 1 ?_
    rw [rounds_succ]
    go_wp2
    go_ret2
    exact ⟨Below.refl _ _, fun _ => ⟨_, rfl, World.ownsRow_nil _ _ _ _⟩, fun h => absurd W1.mayPack_nil h⟩
  · by_cases h64 : ls.length ≤ 64
    · go_enter Try.func39, Try.ntmps39
      go_wp2
      go_loopw [4, 12] (fun v i wr => ∃ k : Nat, k ≤ ls.length ∧ i = .int .i64 k ∧ (∀ l ∈ ls.take k, l.length ≤ 65536) ∧ FB w.heap.size wr v (W1.pack (ls.take k)) ∧ Below w.heap.size w wr)
        (fun _ i _ => ls.length - (intOf i).toNat)
      case atStart => exact ⟨0, Nat.zero_le _, rfl, by simp, World.ownsRow_nil _ _ _ _, Below.refl _ _⟩
      case round =>
        obtain ⟨k, hk, rfl, hall, hown, hbel⟩ := hrel
        by_cases hlt : k < ls.length
        · obtain ⟨u, hcu, hbu⟩ := hc k hlt
          have hcx : wr.cell? ⟨b, o + k, none⟩ = some u := (hbel.cell (p := ⟨b, o + k, none⟩) (block_lt hcu)).trans hcu
          have hpk := W1.pack_take_succ ls k hlt
          have hlen := W1.pack_len _ hall
          rw [List.length_take, Nat.min_eq_left (by omega)] at hlen
          have hmem : ls[k] ∈ ls := List.getElem_mem hlt
          have hall2 : ls[k].length ≤ 65536 → ∀ l ∈ ls.take (k + 1), l.length ≤ 65536 := by
            intro hx l hl
            rw [List.take_succ_eq_append_getElem hlt, List.mem_append] at hl
            rcases hl with hl | hl
            · exact hall l hl
            · simp at hl; subst hl; exact hx
          generalize ls[k] = l at *
          obtain ⟨q, cap', rfl, hqn, hqc⟩ := hbu.cells
          have HPK : Hid _ := hpk
          have HALL : Hid _ := hall2
          have HM : Hid _ := hmem
          have HQ : Hid _ := hqc
          have HU : Hid _ := hbu
          have hsz := hbel.size
          clear hpk hall2 hmem hqc hbu hcu hall
          by_cases hlong : l.length ≤ 65536
          · cases q with
            | none =>
              obtain ⟨rfl, rfl⟩ := hqn rfl
              clear hqn
              go_wp2_with (first | (go_at_call 51; refine (lowestFirst_any 0 4 _ (by omega) (by omega)).mono ?_; rintro e w1 ⟨rfl, hfb, hb1⟩) | (at_builtin; refine wpList_append_lies _ rfl (.tmp 19) (.tmp 23) 22 rfl w.heap.size 5 i0 (.int .u8 0) 1 1 Try.underlying22 hi hz0 hz1 hz2 rfl (by decide) u4 (W1.pack (ls.take k)).length _ rfl (by exact hown.below hb1) ⟨wr.heap.size, 0, none⟩ 4 4 ((W1.le 4 0).map B8) rfl (by simp [W1.le_length]) (by exact hfb.hb.news) (B8_one _) (by decide) (by unfold maxLen; omega) (by omega) (by have := hb1.size; omega) _ rfl ?_; intro g cap2 w2 hown2 hgr2 hg2 hlt2; have hB2 : Below w.heap.size w w2 := (hbel.trans (hb1.mono hsz)).grown hgr2 (by have := hb1.size; omega) (fun j hj => (hown.lt j hj).1)) | (at_builtin; refine wpList_append_own_none rfl (.tmp 25) (.tmp 26) 22 rfl w.heap.size 5 i0 1 Try.underlying22 hi _ _ _ rfl (by exact hown2) rfl ?_))
              go_roundw
              case rel =>
                refine ⟨k + 1, by omega, by go_num, HALL.out hlong, ?_, hB2⟩
                unfold FB
                rw [HPK.out, List.length_append, List.length_append, W1.le_length, List.map_append, List.map_append]
                simpa using hown2
              case measure => simp [intOf]; omega
            | some a =>
              clear hqn
              go_wp2_with (first | (go_at_call 51; refine (lowestFirst_any l.length 4 _ (by omega) (by omega)).mono ?_; rintro e w1 ⟨rfl, hfb, hb1⟩) | (at_builtin; refine wpList_append_lies _ rfl (.tmp 19) (.tmp 23) 22 rfl w.heap.size 5 i0 (.int .u8 0) 1 1 Try.underlying22 hi hz0 hz1 hz2 rfl (by decide) u4 (W1.pack (ls.take k)).length _ rfl (by exact hown.below hb1) ⟨wr.heap.size, 0, none⟩ 4 4 ((W1.le 4 l.length).map B8) rfl (by simp [W1.le_length]) (by exact hfb.hb.news) (B8_one _) (by decide) (by unfold maxLen; omega) (by omega) (by have := hb1.size; omega) _ rfl ?_; intro g cap2 w2 hown2 hgr2 hg2 hlt2; have hB2 : Below w.heap.size w w2 := (hbel.trans (hb1.mono hsz)).grown hgr2 (by have := hb1.size; omega) (fun j hj => (hown.lt j hj).1)) | (at_builtin; refine wpList_append_own _ rfl (.tmp 25) (.tmp 26) 22 rfl w.heap.size 5 i0 (.int .u8 0) 1 1 Try.underlying22 hi hz0 hz1 hz2 rfl (by decide) _ _ _ rfl (by exact hown2) a l.length cap' (l.map B8) rfl (by simp) (by exact HB.news (HB.below HU.out hB2)) (B8_one _) (by unfold maxLen; omega) (by omega) (by exact hB2.size) ?_; intro v3 w3 hown3 hgr3 hn3))
              go_roundw
              case rel =>
                refine ⟨k + 1, by omega, by go_num, HALL.out hlong, ?_, hB2.grown hgr3 hB2.size (fun j hj => (hown2.lt j hj).1)⟩
                unfold FB
                rw [HPK.out, List.length_append, List.length_append, W1.le_length, List.map_append, List.map_append]
                exact hown3
              case measure => simp [intOf]; omega
          · go_wp2
            go_ret2
            exact ⟨hbel, fun hm => absurd (hm.2 l HM.out) hlong, fun _ => rfl⟩
        · have : k = ls.length := by omega
          subst this
          rw [List.take_length] at hown hall
          have HALL : Hid _ := hall
          clear hall
          go_wp2
          go_ret2
          exact ⟨hbel, fun _ => ⟨_, rfl, hown⟩, fun h => absurd ⟨h64, HALL.out⟩ h⟩
    · go_enter Try.func39, Try.ntmps39
      go_wp2
      go_ret2
      exact ⟨Below.refl _ _, fun hm => absurd hm.1 h64, fun _ => rfl⟩

end Go.Proofs.Ytojafgilpnnbiab
