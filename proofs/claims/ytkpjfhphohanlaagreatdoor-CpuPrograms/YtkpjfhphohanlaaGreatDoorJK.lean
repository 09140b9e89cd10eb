/- cpu: deeds, whole; what its closures do. -/
import Derived.Test.YtkpjfhphohanlaaGreatDoorJJ
set_option linter.unusedVariables false
set_option linter.unusedSimpArgs false
namespace Go.Proofs.YtkpjfhphohanlaaGreatDoor.JC
open Go.RowKit
open Go.Proofs.YtkpjfhphohanlaaGreatDoor.EC (row_lt heap_at rangeAt_below rangeAt_row ret_bool ret_i64 beq_int)

/-- The map that deeds makes: for each operation what it does. -/
structure DM (E : Env) (m : Nat) (w : World) : Prop where
  sb : SB E w
  ex : ∃ ml, MF w m ml ∧ (∀ x ∈ ml, G E x.1 w x.2) ∧ (∀ k : Nat, 1 ≤ k → k ≤ 17 → ∃ v, ((k : Int), v) ∈ ml) ∧ (∀ x ∈ ml, ∀ y ∈ ml, x.1 = y.1 → x = y)
theorem wp_region_inv2 {P : Program} {ops ops' : Array Oper} {Q : Exit → Act → World → Prop} {id : Nat} {a : Act} {w : World} (I : Array Bool → Act → World → Prop) (hm : P.follows .mixedOrders = true) (ho : ops = ops')
    (h0 : I (Array.replicate ops'.size false) a w.drew)
    (hstep : ∀ l a w i, I l a w → i ∈ Region.ready .any ops' l → wpOp P ops' Q i (fun a' w' => I (l.setIfInBounds i true) a' w') a w)
    (hend : ∀ l a w, I l a w → Region.ready .any ops' l = [] → Q .normal a w) : (Code.region id ops true).wp P Q a w := by
  subst ho; exact wp_region_inv I hm h0 hstep hend
theorem iv_dm {E : Env} {w0 : World} {l : Array Bool} {a : Act} {w : World} (h : IV E w0 l a w) (hr : Region.ready .any (regOf Tryz.f28 6) l = []) : ∃ m, a.tmps.getD 4 undef = .map (some m) ∧ DM E m w := by
  have hal := all_listed h.lsz hr
  obtain ⟨m, ml, h1, h2, h3, h4, h5, h6⟩ := h.mp (hal 0 (by decide))
  refine ⟨m, (h.f2 (hal 53 (by decide))).trans h1, h.sb, ml, h2, h4, fun k hk1 hk2 => ?_, h6⟩
  have hin : ∀ k, k < 18 → 1 ≤ k → ∃ x ∈ inN, x.2 = k ∧ x.1 < 54 := by decide
  obtain ⟨x, hx, e, hlt⟩ := hin k (by omega) hk1
  rw [← e]
  exact (h5 x hx).1 (hal x.1 hlt)
theorem alloc5 (w : World) (A B C D E : Array Value) (t1 t2 t3 t4 t5 : TypeId) : Below w.heap.size w (((((w.alloc (.cells A t1 (0, 0))).alloc (.cells B t2 (0, 0))).alloc (.cells C t3 (0, 0))).alloc (.cells D t4 (0, 0))).alloc (.cells E t5 (0, 0))).drew ∧
    (((((w.alloc (.cells A t1 (0, 0))).alloc (.cells B t2 (0, 0))).alloc (.cells C t3 (0, 0))).alloc (.cells D t4 (0, 0))).alloc (.cells E t5 (0, 0))).drew.heap[w.heap.size]? = some (.cells A t1 (0, 0)) ∧
    (((((w.alloc (.cells A t1 (0, 0))).alloc (.cells B t2 (0, 0))).alloc (.cells C t3 (0, 0))).alloc (.cells D t4 (0, 0))).alloc (.cells E t5 (0, 0))).drew.heap[w.heap.size + 1]? = some (.cells B t2 (0, 0)) ∧
    (((((w.alloc (.cells A t1 (0, 0))).alloc (.cells B t2 (0, 0))).alloc (.cells C t3 (0, 0))).alloc (.cells D t4 (0, 0))).alloc (.cells E t5 (0, 0))).drew.heap[w.heap.size + 2]? = some (.cells C t3 (0, 0)) ∧
    (((((w.alloc (.cells A t1 (0, 0))).alloc (.cells B t2 (0, 0))).alloc (.cells C t3 (0, 0))).alloc (.cells D t4 (0, 0))).alloc (.cells E t5 (0, 0))).drew.heap[w.heap.size + 3]? = some (.cells D t4 (0, 0)) ∧
    (((((w.alloc (.cells A t1 (0, 0))).alloc (.cells B t2 (0, 0))).alloc (.cells C t3 (0, 0))).alloc (.cells D t4 (0, 0))).alloc (.cells E t5 (0, 0))).drew.heap[w.heap.size + 4]? = some (.cells E t5 (0, 0)) := by
  have hold : ∀ (W : World) (o : Obj) (k : Nat), k < W.heap.size → (W.alloc o).heap[k]? = W.heap[k]? := fun W o k hk => heap_alloc_old _ _ hk
  refine ⟨(((((Below.refl _ _).alloc (Nat.le_refl _) _).alloc (by simp) _).alloc (by first | (simp; done) | (simp; omega)) _).alloc (by first | (simp; done) | (simp; omega)) _).alloc (by first | (simp; done) | (simp; omega)) _ |>.drew, ?_, ?_, ?_, ?_, ?_⟩
  · show (World.alloc _ _).heap[_]? = _
    rw [hold _ _ _ (by first | (simp; done) | (simp; omega)), hold _ _ _ (by first | (simp; done) | (simp; omega)), hold _ _ _ (by first | (simp; done) | (simp; omega)), hold _ _ _ (by simp)]; exact heap_alloc_new _ _
  · show (World.alloc _ _).heap[_]? = _
    rw [hold _ _ _ (by first | (simp; done) | (simp; omega)), hold _ _ _ (by first | (simp; done) | (simp; omega)), hold _ _ _ (by simp)]; exact heap_at _ _ _ (by simp)
  · show (World.alloc _ _).heap[_]? = _
    rw [hold _ _ _ (by first | (simp; done) | (simp; omega)), hold _ _ _ (by simp)]; exact heap_at _ _ _ (by simp)
  · show (World.alloc _ _).heap[_]? = _
    rw [hold _ _ _ (by simp)]; exact heap_at _ _ _ (by simp)
  · exact heap_at _ _ _ (by simp)
def DEnd (i : Ins) (ld : Int) (w : World) (e : Ending) (w' : World) : Prop := ∃ E m, e = .returned (.map (some m)) ∧ E.i = i ∧ E.ld = ld ∧ DM E m w' ∧ Below w.heap.size w w'
set_option maxHeartbeats 2000000 in
set_option maxRecDepth 100000 in
theorem deeds_any (i : Ins) (ld : Int) (w : World) : Calls Tryz.prog 28 #[iV i, .int .u64 ld] w fun e w' => DEnd i ld w e w' := by
  obtain ⟨E, hE⟩ : ∃ E : Env, E = ⟨i, ld, w.heap.size, w.heap.size + 1, w.heap.size + 2, w.heap.size + 3, w.heap.size + 4⟩ := ⟨_, rfl⟩
  obtain ⟨hbW, hc0, hc1, hc2, hc3, hc4⟩ := alloc5 w (iL i).toArray #[.int .u64 ld] #[.int .u64 (IntKind.u64.wrap i.imm)] #[.func (.func 47) #[] #[]] #[.func (.func 48) #[] #[.pointer (some ⟨w.heap.size + 1 + 1, 0, none⟩)]] 41 36 36 80 80
  obtain ⟨op, d, a, b, imm⟩ := i
  unfold iV
  simp only
  go_enter Tryz.func28, Tryz.ntmps28
  go_wp2
  refine wp_region_inv2 (ops' := regOf Tryz.f28 6) (IV E w) (by kernel_rfl) (by kernel_rfl) ?_ (fun l a w i h hi => step_all l a w i h hi) ?_
  · refine ⟨?_, hbW, by rw [Array.size_replicate]; kernel_rfl, rfl, rfl, ?_, ?_, ?_, ?_, ?_, ?_, ?_⟩
    · rw [hE]; exact ⟨hc0, hc1, hc2, hc3, hc4⟩
    · intro t ht
      unfold oldN at ht
      simp only [List.mem_cons, List.not_mem_nil, or_false] at ht
      rw [hE]
      rcases ht with rfl | rfl | rfl | rfl | rfl | rfl | rfl <;> rfl
    · intro x hx hl; simp [Array.getD] at hl
    · intro x hx hl; simp [Array.getD] at hl
    · intro hl; simp [Array.getD] at hl
    · intro _; exact ⟨fun x hx => by simp [Array.getD], by simp [Array.getD], by simp [Array.getD]⟩
    · intro hl; simp [Array.getD] at hl
    · intro hl; simp [Array.getD] at hl
  · intro l a w' h hr
    show _
    rename_i K hK
    refine hK a w' ?_
    obtain ⟨m, hm, hd⟩ := iv_dm h hr
    go_wp2
    refine bodyPost_ret (v := .map (some m)) ?_ h.ad ⟨E, m, rfl, by rw [hE], by rw [hE], hd, h.bel⟩
    rw [results_tmp Tryz.results28, hm]
end Go.Proofs.YtkpjfhphohanlaaGreatDoor.JC
