/- Contract of the law's known. -/
import Derived.Test.YtojafgilpnnbiabC5
set_option linter.unusedVariables false
set_option linter.unusedSimpArgs false
namespace Go.Proofs.Ytojafgilpnnbiab
open Go.RowKit

/-- The chapter's key and bytes. -/
def K20 : List UInt8 := List.replicate 20 11
def M8 : List UInt8 := [72, 105, 32, 84, 104, 101, 114, 101]
theorem macK : macL K20 M8 = [176, 52, 76, 97, 216, 219, 56, 83, 92, 168, 175, 206, 175, 11, 241, 43, 136, 29, 194, 0, 201, 131, 61, 167, 38, 233, 55, 108, 46, 50, 207, 247] := by decide +kernel
theorem want_mac : ({ data := #[98, 48, 51, 52, 52, 99, 54, 49, 100, 56, 100, 98, 51, 56, 53, 51, 53, 99, 97, 56, 97, 102, 99, 101, 97, 102, 48, 98, 102, 49, 50, 98, 56, 56, 49, 100, 99, 50, 48, 48, 99, 57, 56, 51, 51, 100, 97, 55, 50, 54, 101, 57, 51, 55, 54, 99, 50, 101, 51, 50, 99, 102, 102, 55] } : ByteArray) = txt (W1.hex (macL K20 M8)) := by rw [macK]; decide +kernel
/-- A bit turned. -/
def bad (T : List UInt8) : List UInt8 := T.set 31 (T.getD 31 0 ^^^ 1)
theorem bad_len (T : List UInt8) : (bad T).length = T.length := by unfold bad; simp
theorem bad_ne : (macL K20 M8 == bad (macL K20 M8)) = false := by rw [macK]; decide +kernel
theorem bad_set (T : List UInt8) (h : T.length = 32) : (T.map B8).toArray.setIfInBounds 31 (B8 (T.getD 31 0 ^^^ 1)) = ((bad T).map B8).toArray := by
  rw [List.setIfInBounds_toArray, ← List.map_set]; rfl
theorem conv_lit (w : World) (C : Array Value) (n : Nat) : (convert 22 22 (.slice (some ⟨w.heap.size, 0, none⟩) n n)).run Try.prog (w.alloc (.cells C 5)) = .ok (.slice (some ⟨w.heap.size, 0, none⟩) n n) (w.alloc (.cells C 5 (C.size, C.size + 1))) := by
  have hsh : (w.alloc (.cells C 5)).shape? w.heap.size = some (5, C.size) := by
    have : (w.alloc (.cells C 5)).heap[w.heap.size]? = some (.cells C 5) := by
      show (w.heap.push (.cells C 5))[w.heap.size]? = _
      simp
    unfold World.shape?
    rw [this]
  have hfr : (w.alloc (.cells C 5)).freeze ⟨w.heap.size, C.size, none⟩ 1 = w.alloc (.cells C 5 (C.size, C.size + 1)) := by
    have hm : ∀ (a : Array Obj) (x : Obj) (f : Obj → Obj), (a.push x).modify a.size f = a.push (f x) := by
      intro a x f
      apply Array.ext
      · simp
      · intro i h1 h2
        simp only [Array.getElem_modify, Array.getElem_push]
        by_cases h : a.size = i
        · subst h
          simp
        · have hi : i < a.size := by simp at h1; omega
          simp [h, hi]
    unfold World.freeze
    rw [if_neg (by decide)]
    show ({ w.alloc (.cells C 5) with heap := (w.heap.push (.cells C 5)).modify w.heap.size _ } : World) = _
    rw [hm]
    rfl
  simp [convert, run_underlying Try.underlying22, run_underlying Try.underlying5, markStringish, hsh]
  exact hfr
theorem HB.newRowF (X : World) (n k : Nat) (fr : Nat × Nat) (hn : n = X.heap.size) (cs : Array Value) (l : List UInt8) (hk : k = l.length) (hcs : cs = (l.map B8).toArray) (hl : l.length ≤ 1099511627776) : HB (X.alloc (.cells cs 5 fr)) (.slice (some ⟨n, 0, none⟩) k k) l := by
  subst hn hk
  refine .inr ⟨_, 0, _, rfl, Nat.le_refl _, by unfold maxLen; omega, fun i hi => ?_⟩
  rw [Nat.zero_add, cell_of_row _ _ i _ _ _ (heap_alloc_new X _), hcs]
  simp [B8, List.getD, List.getElem?_eq_getElem hi]

/-- What stays while known runs. -/
def KF (w0 : World) (T B : List UInt8) (d b : Nat) (w' : World) : Prop :=
  HB w' (.slice (some ⟨w0.heap.size, 0, none⟩) 20 20) K20 ∧ w'.heap[d]? = some (.cells (T.map B8).toArray 24 (0, 0)) ∧ w'.heap[b]? = some (.cells (B.map B8).toArray 24 (0, 0)) ∧ Below w0.heap.size w0 w'
theorem row_lt {w : World} {d : Nat} {o : Obj} (h : w.heap[d]? = some o) : d < w.heap.size := (Array.getElem?_eq_some_iff.1 h).1
theorem KF.below {w0 a c : World} {T B : List UInt8} {d b : Nat} (h : KF w0 T B d b a) (hb : Below a.heap.size a c) : KF w0 T B d b c := by
  obtain ⟨h1, h2, h3, h4⟩ := h
  exact ⟨HB.below h1 hb, (hb.block _ (row_lt h2)).trans h2, (hb.block _ (row_lt h3)).trans h3, h4.trans (hb.mono h4.size)⟩
theorem KF.alloc {w0 a : World} {T B : List UInt8} {d b : Nat} (h : KF w0 T B d b a) (o : Obj) : KF w0 T B d b (a.alloc o) := h.below ((Below.refl _ _).alloc (Nat.le_refl _) _)

/-- A store over a row's cells, where the walk stands at it. -/
theorem upon_store {o : Oper} {a : Act} {K : Act → World → Prop} {Q : Exit → Act → World → Prop} {W : World} (g : Nat) (cs old : Array Value) (t : TypeId) (hg : W.heap[g]? = some (.cells old t (0, 0))) (hsz : old.size = cs.size) (h1 : cs.all (·.oneCell') = true)
    (h : ∀ W', Hid (W'.heap[g]? = some (.cells cs t (0, 0))) → Below g W W' → Oper.upon Try.prog o a K Q (.ok .skip W')) :
    Oper.upon Try.prog o a K Q (((storeCells ⟨g, 0, none⟩ cs.toList).run Try.prog W).andThen fun _ w' => .ok .skip w') := by
  have h1' : ∀ v ∈ cs.toList, v.oneCell' = true := fun v hv => by
    rw [Array.all_eq_true_iff_forall_mem] at h1
    exact h1 v (by simpa using hv)
  rw [run_storeCells_at Try.prog g 0 t cs.toList 0 old W hg (by simp; omega) h1']
  have e : (old.toList.take (0 + 0) ++ cs.toList ++ old.toList.drop (0 + 0 + cs.toList.length)).toArray = cs := by
    rw [← Array.toList_inj]
    simp [hsz]
  rw [e]
  exact h _ (setRow_heap _ _ _ _ _ _ hg) (below_setRow (Below.refl _ _) (Nat.le_refl _) _)

end Go.Proofs.Ytojafgilpnnbiab
