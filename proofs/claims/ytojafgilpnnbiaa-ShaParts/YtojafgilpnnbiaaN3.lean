/- Contract of the law's known. -/
import Derived.Test.YtojafgilpnnbiaaM3
set_option linter.unusedVariables false
set_option linter.unusedSimpArgs false
namespace Go.Proofs.Ytojafgilpnnbiaa
open Go.RowKit

theorem want_none : ({ data := #[101, 51, 98, 48, 99, 52, 52, 50, 57, 56, 102, 99, 49, 99, 49, 52, 57, 97, 102, 98, 102, 52, 99, 56, 57, 57, 54, 102, 98, 57, 50, 52, 50, 55, 97, 101, 52, 49, 101, 52, 54, 52, 57, 98, 57, 51, 52, 99, 97, 52, 57, 53, 57, 57, 49, 98, 55, 56, 53, 50, 98, 56, 53, 53] } : ByteArray) = txt (W1.hex (shaL [])) := by rw [sha_none]; decide +kernel
theorem want_abc : ({ data := #[98, 97, 55, 56, 49, 54, 98, 102, 56, 102, 48, 49, 99, 102, 101, 97, 52, 49, 52, 49, 52, 48, 100, 101, 53, 100, 97, 101, 50, 50, 50, 51, 98, 48, 48, 51, 54, 49, 97, 51, 57, 54, 49, 55, 55, 97, 57, 99, 98, 52, 49, 48, 102, 102, 54, 49, 102, 50, 48, 48, 49, 53, 97, 100] } : ByteArray) = txt (W1.hex (shaL [97, 98, 99])) := by rw [sha_abc]; decide +kernel
theorem shaL_len (l : List UInt8) : (shaL l).length = 32 := dig8_len _

theorem HB.newRowF (X : World) (n k : Nat) (fr : Nat × Nat) (hn : n = X.heap.size) (cs : Array Value) (l : List UInt8) (hk : k = l.length) (hcs : cs = (l.map B8).toArray) (hl : l.length ≤ 1099511627776) : HB (X.alloc (.cells cs 5 fr)) (.slice (some ⟨n, 0, none⟩) k k) l := by
  subst hn hk
  refine .inr ⟨_, 0, _, rfl, Nat.le_refl _, by unfold maxLen; omega, fun i hi => ?_⟩
  rw [Nat.zero_add, cell_of_row _ _ i _ _ _ (heap_alloc_new X _), hcs]
  simp [B8, List.getD, List.getElem?_eq_getElem hi]

theorem conv_lit (w : World) (C : Array Value) (n : Nat) : (convert 22 22 (.slice (some ⟨w.heap.size, 0, none⟩) n n)).run Try.prog (w.alloc (.cells C 5)) = .ok (.slice (some ⟨w.heap.size, 0, none⟩) n n) (w.alloc (.cells C 5 (C.size, C.size + 1))) := by
  have hsh : (w.alloc (.cells C 5)).shape? w.heap.size = some (5, C.size) := by
    have : (w.alloc (.cells C 5)).heap[w.heap.size]? = some (.cells C 5) := by
      show (w.heap.push (.cells C 5))[w.heap.size]? = _
      simp
    unfold World.shape?
    rw [this]
  have hfr : (w.alloc (.cells C 5)).freeze ⟨w.heap.size, C.size, none⟩ 1 = w.alloc (.cells C 5 (C.size, C.size + 1)) := by
    have hm : ∀ (a : Array Obj) (x : Obj) (f : Obj → Obj), (a.push x).modify a.size f = a.push (f x) := by
      intro a x f
      apply Array.ext
      · simp
      · intro i h1 h2
        simp only [Array.getElem_modify, Array.getElem_push]
        by_cases h : a.size = i
        · subst h
          simp
        · have hi : i < a.size := by simp at h1; omega
          simp [h, hi]
    unfold World.freeze
    rw [if_neg (by decide)]
    show ({ w.alloc (.cells C 5) with heap := (w.heap.push (.cells C 5)).modify w.heap.size _ } : World) = _
    rw [hm]
    rfl
  simp [convert, run_underlying Try.underlying22, run_underlying Try.underlying5, markStringish, hsh]
  exact hfr

set_option maxHeartbeats 1000000 in
theorem known_any (w : World) : Calls Try.prog 9 #[] w fun e w' => e = .returned (.bool true) ∧ Below w.heap.size w w' := by
  have hs0 := fun W => shaSum_any (.slice none 0 0) [] W (by decide) (.inl ⟨rfl, none, 0, rfl, fun _ => rfl⟩)
  have hx0 := fun W => lawHex_any (shaL []) _ W (shaL_len _) want_none
  have hs1 := fun W v hv => shaSum_any v [97, 98, 99] W (by decide) hv
  have hx1 := fun W => lawHex_any (shaL [97, 98, 99]) _ W (shaL_len _) want_abc
  generalize ((shaL []).map B8).toArray = D0 at *
  generalize ((shaL [97, 98, 99]).map B8).toArray = D1 at *
  have k0 : U (konst 0) = 1116352408 := by decide +kernel
  have k63 : U (konst 63) = 3329325298 := by decide +kernel
  have k64 : U (konst 64) = 0 := by decide +kernel
  have s0 : U (start 0) = 1779033703 := by decide +kernel
  have hc0 := fun W => shaConstant_any 0 W
  have hc63 := fun W => shaConstant_any 63 W
  have hc64 := fun W => shaConstant_any 64 W
  have ht0 := fun W => shaStart_any 0 W
  rw [k0] at hc0
  rw [k63] at hc63
  rw [k64] at hc64
  rw [s0] at ht0
  clear k0 k63 k64 s0
  go_enter Try.func9, Try.ntmps9
  go_wp2_with fail
  refine (hs0 _).mono ?_
  rintro e w1 ⟨rfl, b1⟩
  go_wp2_with fail
  refine (hx0 _).mono ?_
  rintro e w2 ⟨rfl, b2⟩
  have c2 := b1.trans (b2.mono b1.size)
  clear b1 b2
  have hcv := conv_lit w2 #[.int .u8 97, .int .u8 98, .int .u8 99] 3
  go_wp2_with fail
  refine (hs1 _ (.slice (some ⟨w2.heap.size, 0, none⟩) 3 3) (HB.newRowF w2 _ 3 _ rfl _ [97, 98, 99] rfl rfl (by decide))).mono ?_
  rintro e w3 ⟨rfl, b3⟩
  have c3 : Below w.heap.size w w3 := (c2.alloc c2.size _).trans (b3.mono (by have := c2.size; simp; omega))
  clear c2 b3
  go_wp2_with fail
  refine (hx1 _).mono ?_
  rintro e w4 ⟨rfl, b4⟩
  have c4 := c3.trans (b4.mono c3.size)
  clear c3 b4
  go_wp2_with fail
  refine (hc0 _).mono ?_
  rintro e w5 ⟨rfl, b5⟩
  have c5 := c4.trans (b5.mono c4.size)
  clear c4 b5
  go_wp2_with fail
  refine (hc63 _).mono ?_
  rintro e w6 ⟨rfl, b6⟩
  have c6 := c5.trans (b6.mono c5.size)
  clear c5 b6
  go_wp2_with fail
  refine (ht0 _).mono ?_
  rintro e w7 ⟨rfl, b7⟩
  have c7 := c6.trans (b7.mono c6.size)
  clear c6 b7
  go_wp2_with fail
  refine (hc64 _).mono ?_
  rintro e w8 ⟨rfl, b8⟩
  have c8 := c7.trans (b8.mono c7.size)
  clear c7 b8
  go_wp2
  go_ret
  exact ⟨rfl, c8⟩

end Go.Proofs.Ytojafgilpnnbiaa
