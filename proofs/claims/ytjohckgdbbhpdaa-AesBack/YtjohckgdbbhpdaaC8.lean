/- Contract of aes's counted. -/
import Derived.Test.YtjohckgdbbhpdaaA8
import Derived.Test.YtjohckgdbbhpdaaX7
set_option linter.unusedVariables false
set_option linter.unusedSimpArgs false
namespace Go.Proofs.Ytjohckgdbbhpdaa
open Go.RowKit

theorem list8 (l : List UInt8) (h : l.length = 8) : ∃ a0 a1 a2 a3 a4 a5 a6 a7, l = [a0, a1, a2, a3, a4, a5, a6, a7] := by
  match l, h with
  | [a0, a1, a2, a3, a4, a5, a6, a7], _ => exact ⟨a0, a1, a2, a3, a4, a5, a6, a7, rfl⟩
/-- The block with number i, ahead of enciphering. -/
def ctA (nonce : List UInt8) (i : Nat) : List UInt8 := nonce ++ (W1.le 8 i).reverse
theorem ctA_len (nonce : List UInt8) (i : Nat) (h : nonce.length = 8) : (ctA nonce i).length = 16 := by unfold ctA; simp [h, W1.le_length]
theorem slice8 (w : World) (b : Nat) : (Instr.sliceAt 35 (.pointer (some ⟨b, 0, none⟩)) none none none).run Try.prog w = .ok (.slice (some ⟨b, 0, none⟩) 8 8) w := by
  have ha : Try.prog.arrayLen 35 = 8 := by kernel_rfl
  have hu : Try.prog.underlying 35 = some (.array (Try.prog.arrayLen 35) (Try.prog.elem 35)) := by kernel_rfl
  have he : Try.prog.elem 35 = 5 := by kernel_rfl
  rw [run_sliceAt_array_all w 35 _ hu, he, size_u8, ha]
  have hadd : (⟨b, 0, none⟩ : Addr).add (0 * 1) = ⟨b, 0, none⟩ := by unfold Addr.add; split <;> simp_all
  simp [Result.andThen, slicedAt, hadd]
theorem HB.ofRow8 {W : World} {b : Nat} {l : List UInt8} {t : TypeId} {fr : Nat × Nat} (k : Nat) (hk : k = l.length) (hl : l.length ≤ 1099511627776) (h : W.heap[b]? = some (.cells (l.map B8).toArray t fr)) : HB W (.slice (some ⟨b, 0, none⟩) k k) l := by
  subst hk
  refine .inr ⟨_, 0, _, rfl, Nat.le_refl _, by unfold maxLen; omega, fun i hi => ?_⟩
  rw [Nat.zero_add, cell_of_row _ _ i _ _ _ h]
  simp [B8, List.getD, List.getElem?_eq_getElem hi]
theorem slArr16 (w : World) (a : Option Addr) (len cap : Nat) (h : 16 ≤ len) : (Instr.arrayAt 26 (.slice a len cap)).run Try.prog w = .ok (.pointer a) w := by
  have hn : ¬ len < 16 := by omega
  simp [Instr.arrayAt, run_underlying Try.underlying26, hn]
/-- What stays while counted runs. -/
def CW (w : World) (NA : Array Value) (v : Value) (L : List UInt8) (wr : World) : Prop :=
  wr.heap[w.heap.size]? = some (.cells NA 35 (0, 0)) ∧ HB wr v L ∧ (∃ Z : Array Value, Z.size = 16 ∧ wr.heap[w.heap.size + 1]? = some (.cells Z 26 (0, 0))) ∧ Below w.heap.size w wr ∧ w.heap.size + 2 ≤ wr.heap.size
theorem CW.below {w : World} {NA : Array Value} {v : Value} {L : List UInt8} {a b : World} (h : CW w NA v L a) (hb : Below a.heap.size a b) : CW w NA v L b := by
  obtain ⟨h1, h2, ⟨Z, z1, z2⟩, h4, h5⟩ := h
  have := hb.size
  exact ⟨(hb.block _ (by omega)).trans h1, h2.below hb, ⟨Z, z1, (hb.block _ (by omega)).trans z2⟩, h4.trans (hb.mono (by omega)), by omega⟩

set_option maxHeartbeats 8000000 in
set_option maxRecDepth 100000 in
theorem pcounted_any (nonce : List UInt8) (i : Nat) (w : World) (hn : nonce.length = 8) (hi : i < 9223372036854775808) :
    Calls Try.prog 44 #[.agg (nonce.map B8).toArray, .int .i64 (i : Int)] w fun e w' => e = .returned (.agg ((ctA nonce i).map B8).toArray) ∧ Below w.heap.size w w' := by
  have hput := fun W => put_ok i 8 W (by decide) (by decide) (by omega) (by omega)
  have hLl : (W1.le 8 i).length = 8 := W1.le_length _ _
  have hRl := ctA_len nonce i hn
  have HCT : Hid (ctA nonce i = [nonce, (W1.le 8 i).reverse].flatten) := by show _ = _; unfold ctA; simp
  generalize ctA nonce i = R at *
  generalize W1.le 8 i = L at *
  obtain ⟨NA, hNA⟩ : ∃ A, A = (nonce.map B8).toArray := ⟨_, rfl⟩
  obtain ⟨RL, hRL⟩ : ∃ A, A = R.map B8 := ⟨_, rfl⟩
  rw [← hNA]
  have HRS : Hid (RL.toArray.size = 16) := by show _ = _; rw [hRL]; simp [hRl]
  have HRI : Hid _ := info16 RL.toArray HRS.out
  have HR1 : Hid (RL.toArray.all (·.oneCell') = true) := by show _ = _; rw [hRL]; exact B8_onea _
  have HRL : Hid _ := hRL
  have HRl : Hid _ := hRl
  have HNA : Hid _ := hNA
  have HNL : Hid _ := hn
  have HLL : Hid _ := hLl
  have hzv := fun W => zero16 W
  obtain ⟨ZA, hZA⟩ : ∃ ZA, ZA = ((List.replicate 16 (0 : UInt8)).map B8).toArray := ⟨_, rfl⟩
  rw [← hZA] at hzv
  have HZS : Hid (ZA.size = 16) := by show _ = _; rw [hZA]; simp
  have hwr : IntKind.u64.wrap (i : Int) = (i : Int) := by rw [IntKind.wrap_u64]; omega
  clear hn hNA hRL hRl hZA hLl
  go_enter Try.func44, Try.ntmps44
  go_wp2_with fail
  refine (hput _).mono ?_
  rintro e w1 ⟨rfl, hfb, hb1⟩
  have HCW : Hid (CW w NA (.slice (some ⟨w.heap.size + 1 + 1, 0, none⟩) 8 8) L w1.drew) := by
    have hs := hb1.size
    simp at hs
    have hfb' : FB (w.heap.size + 1 + 1) w1 (.slice (some ⟨w.heap.size + 1 + 1, 0, none⟩) 8 8) L := by simpa using hfb
    refine ⟨by rw [heap_drew]; exact (hb1.block _ (by first | (simp; done) | (simp; omega))).trans (alloc2_first _ _ _), HB.drew' hfb'.hb, ⟨ZA, HZS.out, by rw [heap_drew]; exact (hb1.block _ (by simp)).trans (heap_at _ _ _ (by simp))⟩, ((((Below.refl _ _).alloc (Nat.le_refl _) _).alloc (by simp) _).trans (hb1.mono (by first | (simp; done) | (simp; omega)))).drew, by rw [heap_drew]; omega⟩
  clear hput hfb hb1
  have hsl := fun W => slice8 W w.heap.size
  go_wp2
  refine wp_region_held_drew (S := CW w NA (.slice (some ⟨w.heap.size + 1 + 1, 0, none⟩) 8 8) L) (by kernel_rfl) HCW.out (fun hHeld => ?_)
  clear HCW
  generalize w1.drew = W0 at *
  refine wpAnyH_take (i := 0) (oi := { dst := some 13, op := Go.Op.slice 35 (Go.Operand.tmp 2) none none none, type := 36, pos := _, after := #[], guard := none }) (v := .slice (some ⟨w.heap.size, 0, none⟩) 8 8) rfl (by kernel_rfl) (by kernel_rfl) (by kernel_rfl) (fun _ _ _ h => h) (Or.inl ⟨by rfl, fun w' hw' => ?_⟩) hHeld ?_
  · first | (go_simp; done) | (go_simp; rfl)
  try simp only [Act.put, List.setIfInBounds_toArray, List.set_cons_zero, List.set_cons_succ]
  refine wpAnyH_take (i := 1) (oi := { dst := some 14, op := Go.Op.move (Go.Operand.tmp 5), type := 36, pos := _, after := #[], guard := none }) (v := .slice (some ⟨w.heap.size + 1 + 1, 0, none⟩) 8 8) rfl (by kernel_rfl) (by kernel_rfl) (by kernel_rfl) (fun _ _ _ h => h) (Or.inl ⟨by rfl, fun w' hw' => ?_⟩) hHeld ?_
  · first | (go_simp; done) | (go_simp; rfl)
  try simp only [Act.put, List.setIfInBounds_toArray, List.set_cons_zero, List.set_cons_succ]
  refine wpAnyH_ready (rs := [2]) (by kernel_rfl) (by simp) ?_
  refine AllReadyH.cons (o := { dst := some 15, op := Go.Op.call { callee := Go.Callee.value (Go.Operand.func 48), args := #[Go.Operand.tmp 14], argTypes := #[36] }, type := 36, pos := _, after := #[{ on := 1, ground := Go.Ground.data }], guard := none }) rfl (fun K hK => ?_) AllReadyH.nil
  rw [if_pos (by rfl)]
  go_wp2_with fail
  refine (turned_any (.slice (some ⟨w.heap.size + 1 + 1, 0, none⟩) 8 8) L _ (by rw [HLL.out]; decide) hHeld.2.1).mono ?_
  rintro e w3 ⟨rfl, hfT, hbT⟩
  have hHeld3 := CW.below hHeld hbT
  rw [HLL.out] at hfT
  have hT := hfT.hb
  rw [HLL.out]
  generalize W0.heap.size = g3 at *
  have hnon : HB w3 (.slice (some ⟨w.heap.size, 0, none⟩) 8 8) nonce := HB.ofRow8 8 HNL.out.symm (by rw [HNL.out]; decide) (by rw [← HNA.out]; exact hHeld3.1)
  clear hfT hbT
  refine hK.out _ _ hHeld3 (fun _ => ?_)
  clear hK K
  try simp only [Act.put, List.setIfInBounds_toArray, List.set_cons_zero, List.set_cons_succ]
  refine wpAnyH_ready (rs := [3]) (by kernel_rfl) (by simp) ?_
  refine AllReadyH.cons (o := { dst := some 16, op := Go.Op.buildSlice 66 2 #[(0, Go.Operand.tmp 13), (1, Go.Operand.tmp 15)], type := 66, pos := _, after := #[{ on := 0, ground := Go.Ground.data }, { on := 2, ground := Go.Ground.data }], guard := none }) rfl (fun K hK => ?_) AllReadyH.nil
  rw [if_pos (by rfl)]
  go_wp2_with fail
  have hb4 : Below w3.heap.size w3 (w3.alloc (.cells #[.slice (some ⟨w.heap.size, 0, none⟩) 8 8, .slice (some ⟨g3, 0, none⟩) 8 8] 36 (0, 0))) := (Below.refl _ _).alloc (Nat.le_refl _) _
  have hHeld4 := CW.below hHeld3 hb4
  have hcel : ∀ k, k < [nonce, L.reverse].length → ∃ u, (w3.alloc (.cells #[.slice (some ⟨w.heap.size, 0, none⟩) 8 8, .slice (some ⟨g3, 0, none⟩) 8 8] 36 (0, 0))).cell? ⟨w3.heap.size, k, none⟩ = some u ∧ HB (w3.alloc (.cells #[.slice (some ⟨w.heap.size, 0, none⟩) 8 8, .slice (some ⟨g3, 0, none⟩) 8 8] 36 (0, 0))) u ([nonce, L.reverse].getD k []) := by
    intro k hk
    rcases (show k = 0 ∨ k = 1 by simp at hk; omega) with rfl | rfl
    · exact ⟨_, cell_of_row _ _ 0 _ _ _ (heap_at _ _ _ rfl), HB.alloc hnon _⟩
    · exact ⟨_, cell_of_row _ _ 1 _ _ _ (heap_at _ _ _ rfl), HB.alloc hT _⟩
  refine hK.out _ _ hHeld4 (fun _ => ?_)
  clear hK K
  try simp only [Act.put, List.setIfInBounds_toArray, List.set_cons_zero, List.set_cons_succ]
  refine wpAnyH_ready (rs := [4]) (by kernel_rfl) (by simp) ?_
  refine AllReadyH.cons (o := { dst := some 17, op := Go.Op.call { callee := Go.Callee.value (Go.Operand.func 47), args := #[Go.Operand.tmp 16], argTypes := #[66] }, type := 36, pos := _, after := #[{ on := 3, ground := Go.Ground.data }, { on := 2, ground := Go.Ground.chain }], guard := none }) rfl (fun K hK => ?_) AllReadyH.nil
  rw [if_pos (by rfl)]
  go_wp2_with fail
  refine (join_any w3.heap.size 2 [nonce, L.reverse] _ (by simp) (by simp [HNL.out, HLL.out]) hcel).mono ?_
  rintro e w5 ⟨v, rfl, hfJ, hbJ⟩
  have hHeld5 := CW.below hHeld4 hbJ
  rw [← HCT.out] at hfJ
  have hJ := hfJ.hb
  clear hb4 hcel hnon hT hHeld4 hHeld3 hHeld hfJ hbJ
  refine hK.out _ _ hHeld5 (fun _ => ?_)
  clear hK K
  try simp only [Act.put, List.setIfInBounds_toArray, List.set_cons_zero, List.set_cons_succ]
  rcases hJ with ⟨hnil, _⟩ | ⟨b, o, cap, rfl, _, _, hc⟩
  · exfalso
    have := HRl.out
    rw [hnil] at this
    simp at this
  have hrg : w5.rangeAt b o RL := fun j u hu => by
    rw [HRL.out, List.getElem?_map] at hu
    have hj : j < R.length := by
      rcases Nat.lt_or_ge j R.length with h | h
      · exact h
      · rw [List.getElem?_eq_none h] at hu; simp at hu
    rw [hc j hj]
    rw [List.getElem?_eq_getElem hj] at hu
    rw [← hu]
    simp [B8, List.getD, List.getElem?_eq_getElem hj]
  rw [HRl.out]
  have hsa := fun W => slArr16 W (some ⟨b, o, none⟩) 16 cap (Nat.le_refl _)
  clear hc
  have hHeld := hHeld5
  refine wpAnyH_take (i := 5) (oi := { dst := some 18, op := Go.Op.sliceToArrayPointer 26 (Go.Operand.tmp 17), type := 0, pos := _, after := #[{ on := 4, ground := Go.Ground.data }], guard := none }) (v := .pointer (some ⟨b, o, none⟩)) rfl (by kernel_rfl) (by kernel_rfl) (by kernel_rfl) (fun _ _ _ h => h) (Or.inl ⟨by rfl, fun w' hw' => ?_⟩) hHeld ?_
  · first | (go_simp; done) | (go_simp; rfl)
  try simp only [Act.put, List.setIfInBounds_toArray, List.set_cons_zero, List.set_cons_succ]
  refine wpAnyH_ready (rs := [6]) (by kernel_rfl) (by simp) ?_
  refine AllReadyH.cons (o := { dst := some 19, op := Go.Op.load 26 (Go.Operand.tmp 18), type := 26, pos := _, after := #[{ on := 5, ground := Go.Ground.data }], guard := none }) rfl (fun K hK => ?_) AllReadyH.nil
  rw [if_pos (by rfl)]
  refine wp_load_mid 26 _ rfl b o rfl RL _ hrg Try.underlying26 rfl (by have := HRI.out; rwa [List.size_toArray] at this) ?_
  refine hK.out _ _ hHeld5 (fun _ => ?_)
  clear hK K
  try simp only [Act.put, List.setIfInBounds_toArray, List.set_cons_zero, List.set_cons_succ]
  refine wpAnyH_ready (rs := [7]) (by kernel_rfl) (by simp) ?_
  refine AllReadyH.cons (o := { dst := none, op := Go.Op.store 26 (Go.Operand.tmp 4) (Go.Operand.tmp 19), type := 0, pos := _, after := #[{ on := 6, ground := Go.Ground.data }, { on := 4, ground := Go.Ground.chain }, { on := 0, ground := Go.Ground.phase }, { on := 1, ground := Go.Ground.phase }, { on := 2, ground := Go.Ground.phase }, { on := 3, ground := Go.Ground.phase }, { on := 4, ground := Go.Ground.phase }, { on := 5, ground := Go.Ground.phase }, { on := 6, ground := Go.Ground.phase }], guard := none }) rfl (fun K hK => ?_) AllReadyH.nil
  rw [if_pos (by rfl)]
  obtain ⟨Z, hZ, hZr⟩ := hHeld5.2.2.1
  refine wp_store_row 26 _ _ rfl (w.heap.size + 1) RL.toArray rfl rfl 26 _ hZr HRI.out (hZ.trans HRS.out.symm) HR1.out ?_
  have hHeld6 : CW w NA (.slice (some ⟨w.heap.size + 1 + 1, 0, none⟩) 8 8) L (w5.setRow (w.heap.size + 1) RL.toArray) := by
    obtain ⟨h1, h2, h3, h4, h5⟩ := hHeld5
    refine ⟨by rw [setRow_other _ _ _ _ (by omega)]; exact h1, ?_, ⟨RL.toArray, HRS.out, setRow_heap _ _ _ _ _ _ hZr⟩, below_setRow h4 (by omega) _, by simpa using h5⟩
    rcases h2 with ⟨e1, p, cp, e2, e3⟩ | ⟨b', o', cp, e1, e2, e3, e4⟩
    · exact .inl ⟨e1, p, cp, e2, e3⟩
    · refine .inr ⟨b', o', cp, e1, e2, e3, fun k hk => ?_⟩
      simp only [Value.slice.injEq, Option.some.injEq, Addr.mk.injEq] at e1
      rw [cell_setRow_other _ _ _ _ (by show b' ≠ _; omega)]; exact e4 k hk
  refine hK.out _ _ hHeld6 (fun _ => ?_)
  clear hK K
  try simp only [Act.put, List.setIfInBounds_toArray, List.set_cons_zero, List.set_cons_succ]
  refine wpAnyH_done (by kernel_rfl) ?_ _
  have HR5 : Hid _ := setRow_heap _ _ _ RL.toArray _ _ hZr
  have HB5 : Hid _ := hHeld6.2.2.2.1
  clear hHeld hHeld5 hHeld6
  go_wp2
  refine bodyPost_ret (v := .agg RL.toArray) ?_ rfl ⟨by rw [HRL.out], HB5.out⟩
  exact results_cell_row Try.results44 _ _ (w.heap.size + 1) 26 _ (0, 0) _ rfl HR5.out Try.underlying26 rfl HRI.out

end Go.Proofs.Ytjohckgdbbhpdaa
