import Derived.Test.YtekbppfocnbhbaaGreatYE
set_option linter.unusedVariables false
set_option linter.unusedSimpArgs false
set_option maxHeartbeats 16000000
set_option maxRecDepth 100000
namespace Go.Proofs.YtekbppfocnbhbaaGreat.XC
open Go.RowKit
section
variable {c : Cx} {rb last : Nat} {I J : Nat → Prop} {X Y : World} {rl a b : List En} {av : Value} {rd : Int} {r : Rm} {lv : Value}
theorem RX.block (h : RX c rb I X (a ++ (rd, r, lv) :: b) last av) {g cap : Nat} (hav : av = .slice (some ⟨g, 0, none⟩) (a ++ (rd, r, lv) :: b).length cap) :
    ∃ Z : List Value, X.heap[g]? = some (.cells (itC a ++ (itL (rd, r, lv) ++ (itC b ++ Z))).toArray 54 (0, 0)) := by
  rcases h.own.2 with ⟨e1, _⟩ | ⟨g', cap', cur, e1, e2, e3, e4, e5, e6, e7⟩
  · rw [hav] at e1; simp at e1
  · rw [hav] at e1
    simp only [Value.slice.injEq, Option.some.injEq, Addr.mk.injEq, and_true, true_and] at e1
    obtain ⟨rfl, rfl⟩ := e1
    refine ⟨cur.toList.drop ((a ++ (rd, r, lv) :: b).length * 104), ?_⟩
    rw [e3]
    have : itC a ++ (itL (rd, r, lv) ++ (itC b ++ cur.toList.drop ((a ++ (rd, r, lv) :: b).length * 104))) = cur.toList := by
      rw [← List.append_assoc (itL (rd, r, lv)), ← List.append_assoc (itC a), ← itC_cons, ← itC_app, ← e7, List.take_append_drop]
    rw [this]
theorem RX.put2 (h : RX c rb I X (a ++ (rd, r, lv) :: b) last av) {g cap : Nat} (hav : av = .slice (some ⟨g, 0, none⟩) (a ++ (rd, r, lv) :: b).length cap) {Z : List Value} (hZ : X.heap[g]? = some (.cells (itC a ++ (itL (rd, r, lv) ++ (itC b ++ Z))).toArray 54 (0, 0)))
    (r' : Rm) (lv' : Value) (hr : r'.ok) (hY : Y.heap[g]? = some (.cells (itC a ++ (itL (rd, r', lv') ++ (itC b ++ Z))).toArray 54 (0, 0)))
    (hne : ∀ k, I k → k ≠ g → Y.heap[k]? = X.heap[k]?) (hlog : HR Y lv' r'.log) (hIJ : ∀ k, I k → J k) (hlJ : ∀ k, lv'.ownBlock = some k → J k ∧ k ≠ rb ∧ k ≠ g) :
    RX c rb J Y (a ++ (rd, r', lv') :: b) last av := by
  have hg : av.ownBlock = some g := by rw [hav]; rfl
  have hin : ∀ y ∈ a ++ (rd, r', lv') :: b, (y ∈ a ++ (rd, r, lv) :: b ∨ y = (rd, r', lv')) := fun y hy => by
    rcases List.mem_append.1 hy with hy | hy
    · exact .inl (by simp [hy])
    · rcases List.mem_cons.1 hy with hy | hy
      · exact .inr hy
      · exact .inl (by simp [hy])
  have hlen : (a ++ (rd, r', lv') :: b).length = (a ++ (rd, r, lv) :: b).length := by simp
  have hok' : ∀ y ∈ a ++ (rd, r', lv') :: b, y.2.1.ok := fun y hy => by
    rcases hin y hy with hy | rfl
    · exact h.ok y hy
    · exact hr
  refine ⟨(hne rb h.fI.1 (h.aI g hg).2.2.symm).trans h.row, ⟨by rw [itC_len hok'], ?_⟩, hok', fun y hy => ?_, fun y hy => ?_, ⟨hIJ _ h.fI.1, h.fI.2⟩, fun k hk => ⟨hIJ _ (h.aI k hk).1, (h.aI k hk).2⟩⟩
  · rcases h.own.2 with ⟨e1, _⟩ | ⟨g', cap', cur, e1, e2, e3, e4, e5, e6, e7⟩
    · rw [hav] at e1; simp at e1
    · rw [hav] at e1
      simp only [Value.slice.injEq, Option.some.injEq, Addr.mk.injEq, and_true, true_and] at e1
      obtain ⟨rfl, rfl⟩ := e1
      rw [hlen]
      refine .inr ⟨g, cap, _, hav, e2, hY, e4, e5, ?_, ?_⟩
      · rw [hZ] at e3
        injection e3 with e3
        injection e3 with e3
        rw [← e3] at e6
        rw [List.size_toArray] at e6 ⊢
        rw [← e6]
        simp only [List.length_append, itL_len (x := (rd, r', lv')) hr, itL_len (x := (rd, r, lv)) (h.ok _ (by simp))]
      · rw [← List.append_assoc (itL (rd, r', lv')), ← List.append_assoc (itC a), ← itC_cons, ← itC_app, ← hlen, ← itC_len hok', List.take_left' rfl]
  · rcases hin y hy with hy | rfl
    · exact (h.logs y hy).keep (fun k hk _ => hne k (h.lI y hy k hk).1 (fun e => (h.lI y hy k hk).2.2 (by rw [e]; exact hg)))
    · exact hlog
  · intro k hk
    rcases hin y hy with hy | rfl
    · exact ⟨hIJ _ (h.lI y hy k hk).1, (h.lI y hy k hk).2⟩
    · exact ⟨(hlJ k hk).1, (hlJ k hk).2.1, by rw [hg]; intro e; injection e with e; exact (hlJ k hk).2.2 e.symm⟩
def RV (c : Cx) (rb : Nat) (I : Nat → Prop) (X Y : World) (rl : List En) (last : Nat) (av : Value) : Prop := RX c rb I Y rl last av ∧ R5.Fr (fun k => av.ownBlock = some k) X Y
theorem RW.rv (h : RW c rb I X Y rl last av) : RV c rb I X Y rl last av := by
  obtain ⟨h1, g, hg, hf, _⟩ := h
  exact ⟨h1, hf.os, hf.tape, hf.output, hf.size, fun k hk hn => hf.block k hk (fun e => hn (by rw [e]; exact hg))⟩
theorem RX.lt (h : RX c rb I X rl last av) (k : Nat) (hk : k = rb ∨ av.ownBlock = some k ∨ ∃ x ∈ rl, x.2.2.ownBlock = some k) (hs : ∀ k, I k → k < X.heap.size) : k < X.heap.size := by
  rcases hk with rfl | hk | ⟨x, hx, hk⟩
  · exact hs _ h.fI.1
  · exact hs _ (h.aI k hk).1
  · exact hs _ (h.lI x hx k hk).1
theorem RX.below (h : RX c rb I X rl last av) (hs : ∀ k, I k → k < X.heap.size) (hb : Below X.heap.size X Y) : RX c rb I Y rl last av := h.keep (fun k hk => hb.block k (h.lt k hk hs)) (fun _ h => h)
theorem rstr_no (h : RX c rb I X rl last av) (hs : ∀ k, I k → k < X.heap.size) (hn : rl.length < 1000000) (hno : NoRd rl rd) (TA : Array Value) :
    Calls Tryz.prog 39 #[.pointer (some ⟨rb, 0, none⟩), .int .i64 rd, .agg TA] X fun e Y => e = .returned (.int .i64 6) ∧ RV c rb I X Y rl last av := by
  have hb1 : Below X.heap.size X (X.alloc (.cells TA 33 (0, 0))) := (Below.refl _ _).alloc (Nat.le_refl _) _
  have h1 := h.below hs hb1
  have HC : Hid (Calls Tryz.prog 13 #[.pointer (some ⟨rb, 0, none⟩), .int .i64 rd] (X.alloc (.cells TA 33 (0, 0))) fun e Y => e = .returned (.int .i64 (-1)) ∧ (X.alloc (.cells TA 33 (0, 0))) = Y) := rat_no h1 hn hno
  have HE : Hid (RV c rb I X (X.alloc (.cells TA 33 (0, 0))) rl last av) := ⟨h1, R5.Fr.ofBelow hb1⟩
  clear h hn hno h1 hb1
  go_enter Tryz.func39, Tryz.ntmps39
  go_wp2_with fail
  refine Calls.mono HC.out ?_
  rintro e w1 ⟨rfl, rfl⟩
  go_wp2
  go_ret
  exact ⟨rfl, HE.out⟩
theorem itL_splT {r : Rm} (hr : r.ok) (rd : Int) (lv : Value) (t : List UInt8) (ht : t.length = 32) (p q : List Value) (n : Nat) (hn : n = p.length + 71) : splice (p ++ (itL (rd, r, lv) ++ q)) n (t.map B8) = p ++ (itL (rd, { r with tree := t }, lv) ++ q) := by
  have e : p ++ (itL (rd, r, lv) ++ q) = (p ++ (.int .i64 rd :: ([PC.U8 r.inst, .int .i64 r.st, .int .i64 r.root, PC.U8 r.nodes] ++ r.meas.map B8 ++ (lv :: r.key.map B8) ++ [PC.U8 r.ctr]))) ++ (r.tree.map B8 ++ (.int .i64 (r.recs : Int) :: q)) := by simp [itL, rmL]
  rw [e, spl_app _ _ (t.map B8) _ n (by simp [hr.m, hr.k, hn]) (by simp [hr.t, ht])]; simp [itL, rmL]
theorem rstr_is (h : RX c rb I X (a ++ (rd, r, lv) :: b) last av) (hs : ∀ k, I k → k < X.heap.size) (hn : (a ++ (rd, r, lv) :: b).length < 1000000) (hno : NoRd a rd) (t : List UInt8) (ht : t.length = 32) :
    Calls Tryz.prog 39 #[.pointer (some ⟨rb, 0, none⟩), .int .i64 rd, .agg (t.map B8).toArray] X fun e Y => e = .returned (.int .i64 0) ∧ RV c rb I X Y (a ++ (rd, { r with tree := t }, lv) :: b) last av := by
  have HTI : Hid _ := R5.info32 (t.map B8) (by simpa using ht)
  have HTA : Hid ((Tryz.prog.info? 33).map (·.size) = some (t.map B8).toArray.size) := R5.info32a _ (by simpa using ht)
  have HT1 : Hid _ := R5.B8_onea t
  obtain ⟨X1, hX1⟩ : ∃ X1, X1 = X.alloc (.cells (t.map B8).toArray 33 (0, 0)) := ⟨_, rfl⟩
  have hb1 : Below X.heap.size X X1 := by rw [hX1]; exact (Below.refl _ _).alloc (Nat.le_refl _) _
  have hbx : X1.heap[X.heap.size]? = some (.cells (t.map B8).toArray 33 (0, 0)) := by rw [hX1]; exact heap_alloc_new _ _
  have hz1 : X1.heap.size = X.heap.size + 1 := by rw [hX1]; simp
  have hs1 : ∀ k, I k → k < X1.heap.size := fun k hk => by have := hs k hk; omega
  have h1 := h.below hs hb1
  obtain ⟨g, cap, hav⟩ := h1.slice
  have hgo : av.ownBlock = some g := by rw [hav]; rfl
  have hgX : g < X.heap.size := hs _ (h.aI g hgo).1
  have HNG : Hid (rb ≠ g) := (h.aI g hgo).2.2.symm
  have hok := h1.ok _ (show (rd, r, lv) ∈ a ++ (rd, r, lv) :: b by simp)
  have hao : ∀ y ∈ a, y.2.1.ok := fun y hy => h1.ok y (by simp [hy])
  have HEND : Hid (∀ W, Below X1.heap.size X1 W → ∃ Z, W.heap[g]? = some (.cells (itC a ++ (itL (rd, r, lv) ++ (itC b ++ Z))).toArray 54 (0, 0)) ∧ W.rangeAt X.heap.size 0 (t.map B8) ∧ a.length * 104 + 71 + (t.map B8).toArray.size ≤ (itC a ++ (itL (rd, r, lv) ++ (itC b ++ Z))).length ∧ ∀ V, V = W.setRow g (splice (itC a ++ (itL (rd, r, lv) ++ (itC b ++ Z))) (a.length * 104 + 71) (t.map B8).toArray.toList).toArray → RV c rb I X V (a ++ (rd, { r with tree := t }, lv) :: b) last av) := fun W hW => by
    have hW0 := h1.below hs1 hW
    obtain ⟨Z, hZ⟩ := hW0.block hav
    refine ⟨Z, hZ, PC.rangeAt_row ((hW.block _ (by omega)).trans hbx), ?_, fun V hV => ?_⟩
    · rw [List.length_append, List.length_append, itC_len hao, itL_len (x := (rd, r, lv)) hok, List.size_toArray, List.length_map, ht]
      omega
    · rw [List.toList_toArray, itL_splT hok rd lv t ht _ _ _ (by rw [itC_len hao])] at hV
      subst hV
      have hfr : R5.Fr (fun k => av.ownBlock = some k) X (W.setRow g (itC a ++ (itL (rd, { r with tree := t }, lv) ++ (itC b ++ Z))).toArray) := R5.Fr.setRow (R5.Fr.ofBelow (hb1.trans (hW.mono (by omega)))) g _ (.inl hgo)
      have h0 : (rd, r, lv) ∈ a ++ (rd, r, lv) :: b := by simp
      refine ⟨hW0.put2 hav hZ { r with tree := t } lv ⟨hok.m, hok.k, ht, hok.l⟩ (setRow_heap _ _ _ _ _ _ hZ) (fun k _ hk => setRow_other _ _ _ _ hk) ?_ (fun _ h => h) (fun k hk => ⟨(hW0.lI _ h0 k hk).1, (hW0.lI _ h0 k hk).2.1, fun e => (hW0.lI _ h0 k hk).2.2 (by rw [e]; exact hgo)⟩), hfr⟩
      exact (hW0.logs _ h0).keep (fun k hk _ => setRow_other _ _ _ _ (fun e => (hW0.lI _ h0 k hk).2.2 (by rw [e]; exact hgo)))
  have HC1 : Hid (∀ W, Below X1.heap.size X1 W → W.cell? ⟨rb, 1, none⟩ = some (.slice (some ⟨g, 0, none⟩) (a ++ (rd, r, lv) :: b).length cap)) := fun W hW => by
    rw [← hav]; exact (h1.below hs1 hW).cells.2.1
  have HC : Hid (Calls Tryz.prog 13 #[.pointer (some ⟨rb, 0, none⟩), .int .i64 rd] X1 fun e Y => e = .returned (.int .i64 (a.length : Int)) ∧ X1 = Y) := rat_is h1 hn hno
  have hlt : a.length < (a ++ (rd, r, lv) :: b).length := by simp
  rw [hX1] at HC HC1 HEND
  clear h h1 hav hs1 hz1 hbx hb1 hok hao hX1 X1
  obtain ⟨Kk, hKk⟩ : ∃ Kk, Kk = a.length := ⟨_, rfl⟩
  obtain ⟨Nn, hNn⟩ : ∃ Nn, Nn = (a ++ (rd, r, lv) :: b).length := ⟨_, rfl⟩
  rw [← hNn] at HC1 hlt hn
  rw [← hKk] at hlt HC HEND
  have hneg : ¬ (Kk : Int) < 0 := by omega
  have hltI : (Kk : Int) < (Nn : Int) := by omega
  clear hno hKk hNn
  generalize t.map B8 = TL at *
  obtain ⟨X1, hX1⟩ : ∃ X1, X1 = X.alloc (.cells TL.toArray 33 (0, 0)) := ⟨_, rfl⟩
  rw [← hX1] at HC1 HEND
  have HX1 : Hid (X1 = X.alloc (.cells TL.toArray 33 (0, 0))) := hX1
  clear hX1
  go_enter Tryz.func39, Tryz.ntmps39
  go_wp2_with fail
  refine Calls.mono HC.out ?_
  rintro e w1 ⟨rfl, rfl⟩
  rw [← HX1.out]
  clear HC HX1
  go_wp2
  have HBW : Hid (Below X1.heap.size X1 X1.drew) := (Below.refl _ _).drew
  refine wp_region_held_drew (S := fun w' => w'.cell? ⟨rb, 1, none⟩ = some (.slice (some ⟨g, 0, none⟩) Nn cap) ∧ w'.rangeAt X.heap.size 0 TL) (by kernel_rfl) ⟨HC1.out _ HBW.out, (HEND.out _ HBW.out).choose_spec.2.1⟩ (fun hHeld => ?_)
  generalize X1.drew = W at *
  refine qzI 0 ⟨some 13, .move (.tmp 0), 27, _, #[], none⟩ (.pointer (some ⟨rb, 0, none⟩)) rfl (by kernel_rfl) (fun _ _ _ h => h) (by rfl) (fun w' hw' => ?_) hHeld ?_
  · go_simp <;> rfl
  try simp only [Act.put, qT, q0, qS]
  refine qzI 1 ⟨some 14, .nilCheck (.tmp 13), 0, _, #[⟨0, .data⟩], none⟩ (.pointer (some ⟨rb, 0, none⟩)) rfl (by kernel_rfl) (fun _ _ _ h => h) (by rfl) (fun w' hw' => ?_) hHeld ?_
  · go_simp <;> rfl
  try simp only [Act.put, qT, q0, qS]
  refine qzI 2 ⟨some 15, .fieldAddr 58 (.tmp 14) 1, 0, _, #[⟨1, .data⟩], none⟩ (.pointer (some ⟨rb, 1, none⟩)) rfl (by kernel_rfl) (fun _ _ _ h => h) (by rfl) (fun w' hw' => ?_) hHeld ?_
  · go_simp <;> rfl
  try simp only [Act.put, qT, q0, qS]
  refine qzI 3 ⟨some 16, .load 56 (.tmp 15), 56, _, #[⟨2, .data⟩], none⟩ (.slice (some ⟨g, 0, none⟩) Nn cap) rfl (by kernel_rfl) (fun _ _ _ h => h) (by rfl) (fun w' hw' => ?_) hHeld ?_
  · have hq := hw'.1; go_simp <;> rfl
  try simp only [Act.put, qT, q0, qS]
  refine qzI 4 ⟨some 17, .move (.tmp 7), 3, _, #[], none⟩ (.int .i64 (Kk : Int)) rfl (by kernel_rfl) (fun _ _ _ h => h) (by rfl) (fun w' hw' => ?_) hHeld ?_
  · go_simp <;> rfl
  try simp only [Act.put, qT, q0, qS]
  refine qzK 5 ⟨some 18, .load 33 (.tmp 5), 33, _, #[], none⟩ _ rfl (by kernel_rfl) (fun _ _ _ h => h) (yieldsIf_load_mid (by rfl) 33 (.tmp 5) rfl (X.heap.size) (0) rfl (TL) _ (fun _ h => h.2) Tryz.underlying33 rfl HTI.out) hHeld ?_
  try simp only [Act.put, qT, q0, qS]
  refine qzI 6 ⟨some 19, .indexAddr 56 (.tmp 16) (.tmp 17), 0, _, #[⟨3, .data⟩, ⟨4, .data⟩, ⟨0, .phase⟩, ⟨1, .phase⟩, ⟨2, .phase⟩, ⟨3, .phase⟩, ⟨4, .phase⟩, ⟨5, .phase⟩], none⟩ (.pointer (some ⟨g, Kk * 104, none⟩)) rfl (by kernel_rfl) (fun _ _ _ h => h) (by rfl) (fun w' hw' => ?_) hHeld ?_
  · go_simp <;> rfl
  try simp only [Act.put, qT, q0, qS]
  refine qzI 7 ⟨some 20, .fieldAddr 54 (.tmp 19) 1, 0, _, #[⟨6, .data⟩, ⟨0, .phase⟩, ⟨1, .phase⟩, ⟨2, .phase⟩, ⟨3, .phase⟩, ⟨4, .phase⟩, ⟨5, .phase⟩], none⟩ (.pointer (some ⟨g, Kk * 104 + 1, none⟩)) rfl (by kernel_rfl) (fun _ _ _ h => h) (by rfl) (fun w' hw' => ?_) hHeld ?_
  · go_simp <;> rfl
  try simp only [Act.put, qT, q0, qS]
  refine qzI 8 ⟨some 21, .fieldAddr 47 (.tmp 20) 8, 0, _, #[⟨7, .data⟩, ⟨0, .phase⟩, ⟨1, .phase⟩, ⟨2, .phase⟩, ⟨3, .phase⟩, ⟨4, .phase⟩, ⟨5, .phase⟩], none⟩ (.pointer (some ⟨g, Kk * 104 + 71, none⟩)) rfl (by kernel_rfl) (fun _ _ _ h => h) (by rfl) (fun w' hw' => ?_) hHeld ?_
  · go_simp <;> rfl
  try simp only [Act.put, qT, q0, qS]
  refine qzR 9 ⟨none, .store 33 (.tmp 21) (.tmp 18), 0, _, #[⟨8, .data⟩, ⟨5, .data⟩, ⟨0, .phase⟩, ⟨1, .phase⟩, ⟨2, .phase⟩, ⟨3, .phase⟩, ⟨4, .phase⟩, ⟨5, .phase⟩], none⟩ (by kernel_rfl) rfl (by rfl) (fun K hK => ?_)
  obtain ⟨Z, hZ, _, hfit, hfin⟩ := HEND.out _ HBW.out
  refine wp_store_seg 33 _ _ rfl g (Kk * 104 + 71) TL.toArray (itC a ++ (itL (rd, r, lv) ++ (itC b ++ Z))) 54 rfl rfl hZ HTA.out hfit HT1.out ?_
  have hHeld2 : (W.setRow g (splice (itC a ++ (itL (rd, r, lv) ++ (itC b ++ Z))) (Kk * 104 + 71) TL.toArray.toList).toArray).cell? ⟨rb, 1, none⟩ = some (.slice (some ⟨g, 0, none⟩) Nn cap) ∧ (W.setRow g (splice (itC a ++ (itL (rd, r, lv) ++ (itC b ++ Z))) (Kk * 104 + 71) TL.toArray.toList).toArray).rangeAt X.heap.size 0 TL := by
    refine ⟨?_, fun j v hv => ?_⟩
    · rw [World.cell?_of_block (w := W) (a := ⟨rb, 1, none⟩) (setRow_other _ _ _ _ HNG.out)]; exact hHeld.1
    · rw [World.cell?_of_block (w := W) (a := ⟨X.heap.size, 0 + j, none⟩) (setRow_other _ _ _ _ (by show X.heap.size ≠ g; omega))]; exact hHeld.2 j v hv
  have HFIN : Hid (RV c rb I X (W.setRow g (splice (itC a ++ (itL (rd, r, lv) ++ (itC b ++ Z))) (Kk * 104 + 71) TL.toArray.toList).toArray) (a ++ (rd, { r with tree := t }, lv) :: b) last av) := hfin _ rfl
  clear hfin hZ hfit
  refine hK.out _ _ hHeld2 (fun _ => ?_)
  clear hK K
  try simp only [Act.put, qT, q0, qS]
  refine wpAnyH_done (by kernel_rfl) ?_ _
  go_wp2
  go_ret
  exact ⟨rfl, HFIN.out⟩
end
theorem below_grown {B : Nat} {w w' : World} {row : Option Nat} (hg : w.grownBy w' row) (hB : B ≤ w.heap.size) (hr : ∀ k, row = some k → B ≤ k) : Below B w w' :=
  ⟨hg.os, hg.tape, hg.output, hg.size, fun k hk => hg.block k (by omega) (fun e => by have := hr k e.symm; omega)⟩
theorem run_app0 {P : Program} (w : World) (base : Nat) (t ty e : TypeId) (i : TypeInfo) (size : Nat) (ht : P.underlying t = some (.slice e)) (hi : P.info? e = some i)
    (v : Value) (n : Nat) (xs : List Value) (hown : w.ownsRow base e size v n xs) (ad : Addr) (c : Nat) :
    (Builtin.append_ #[t, t] ty #[v, .slice (some ad) 0 c]).run P w = .ok v w := by
  rcases hown.2 with ⟨rfl, rfl⟩ | ⟨g, cap, cur, rfl, _, _, hnc, _⟩
  · simp [Builtin.append_, run_underlying ht, sizeOf, typeInfo, hi, Builtin.lenOf, Builtin.firstCells, loadCells, loadCellsFrom]
  · simp [Builtin.append_, run_underlying ht, sizeOf, typeInfo, hi, Builtin.lenOf, Builtin.firstCells, hnc, storeCells, loadCells, loadCellsFrom]
theorem run_app_any {P : Program} (w : World) (t ty : TypeId) (base : Nat) (e : TypeId) (i : TypeInfo) (z : Value) (size bytes : Nat) (ht : P.underlying t = some (.slice e)) (hi : P.info? e = some i) (hz : i.zero = some z)
    (hsize : i.size = size) (hby : i.bytes = bytes) (hzs : z.cells.size = size) (hsz : 0 < size)
    (v : Value) (n : Nat) (xs : List Value) (hown : w.ownsRow base e size v n xs)
    (ad : Addr) (m c : Nat) (news : List Value) (hl : news.length = m * size) (hnews : ∀ j u, news[j]? = some u → w.cell? (ad.add j) = some u) (h1 : ∀ u ∈ news, u.oneCell' = true)
    (h63 : n + m ≤ maxLen) (hbytes : (n + m) * bytes ≤ 140737488355328) (hbase : base ≤ w.heap.size) :
    ∃ v' w', (Builtin.append_ #[t, t] ty #[v, .slice (some ad) m c]).run P w = .ok v' w' ∧ w'.ownsRow base e size v' (n + m) (xs ++ news) ∧ Below base w w' := by
  by_cases hm : m = 0
  · subst hm
    have : news = [] := List.eq_nil_of_length_eq_zero (by rw [hl, Nat.zero_mul])
    subst this
    exact ⟨v, w, run_app0 w base t ty e i size ht hi v n xs hown ad c, by simpa using hown, Below.refl _ _⟩
  · obtain ⟨g, cap, w', hr, h2, h3, _, _⟩ := run_app_keep (P := P) w t ty base e i z size bytes ht hi hz hsize hby hzs hsz v n xs hown ad m c news hl hnews h1 (by omega) h63 hbytes hbase
    exact ⟨_, w', hr, h2, below_grown h3 hbase (fun k hk => (hown.lt k hk).1)⟩
theorem wp_app_any {P : Program} {o : Oper} {a : Act} {K : Act → World → Prop} {Q : Exit → Act → World → Prop} (w : World) (s x : Operand) (t : TypeId)
    (ho : o.op = .call { callee := .builtin .append, args := #[s, x], argTypes := #[t, t] })
    (base : Nat) (e : TypeId) (i : TypeInfo) (z : Value) (size bytes : Nat) (ht : P.underlying t = some (.slice e)) (hi : P.info? e = some i) (hz : i.zero = some z)
    (hsize : i.size = size) (hby : i.bytes = bytes) (hzs : z.cells.size = size) (hsz : 0 < size)
    (v : Value) (n : Nat) (xs : List Value) (hs : a.eval s = v) (hown : w.ownsRow base e size v n xs)
    (ad : Addr) (m c : Nat) (news : List Value) (hx : a.eval x = .slice (some ad) m c) (hl : news.length = m * size) (hnews : ∀ j u, news[j]? = some u → w.cell? (ad.add j) = some u) (h1 : ∀ u ∈ news, u.oneCell' = true)
    (h63 : n + m ≤ maxLen) (hbytes : (n + m) * bytes ≤ 140737488355328) (hbase : base ≤ w.heap.size)
    (h : ∀ v' w', w'.ownsRow base e size v' (n + m) (xs ++ news) → Below base w w' → K (a.put o.dst v') w') : Oper.wp P o a w K Q := by
  obtain ⟨v', w', hr, h2, h3⟩ := run_app_any (P := P) w t o.type base e i z size bytes ht hi hz hsize hby hzs hsz v n xs hown ad m c news hl hnews h1 h63 hbytes hbase
  unfold Oper.wp execOp
  simp only [ho, resolve, invoke, builtin, Sem.run_bind, Sem.run_pure, Result.andThen_ok, List.map_toArray, List.map_cons, List.map_nil, hs, hx, hr]
  exact h v' w' h2 h3
section
variable {c : Cx} {rb last : Nat} {I J : Nat → Prop} {X Y : World} {rl a b : List En} {av : Value} {rd : Int} {r : Rm} {lv : Value}
theorem itC_one {l : List En} (h : ∀ x ∈ l, ∃ w : World, HR w x.2.2 x.2.1.log) : ∀ u ∈ itC l, u.oneCell' = true := fun u hu => by
  unfold itC at hu
  obtain ⟨x, hx, hu⟩ := List.mem_flatMap.1 hu
  obtain ⟨w, hw⟩ := h x hx
  rcases List.mem_cons.1 hu with rfl | hu
  · rfl
  · exact rmL_one x.2.1 x.2.2 hw.one u hu
theorem RX.move {rl' : List En} {av' : Value} (h : RX c rb I X rl last av) (hrow : Y.heap[rb]? = some (.cells #[.pointer (some ⟨c.rg, 0, none⟩), av', PC.U8 last] 58 (0, 0)))
    (hown : Y.ownsRow X.heap.size 54 104 av' rl'.length (itC rl')) (hsub : ∀ x ∈ rl', x ∈ rl) (hb : ∀ k, k < X.heap.size → k ≠ rb → Y.heap[k]? = X.heap[k]?) (hs : ∀ k, I k → k < X.heap.size) (hn : c.n ≤ X.heap.size) :
    RX c rb (fun k => I k ∨ (X.heap.size ≤ k ∧ k < Y.heap.size)) Y rl' last av' := by
  refine ⟨hrow, ⟨hown.1, hown.2.elim Or.inl (fun ⟨g, cap, cur, hv, hg, r⟩ => Or.inr ⟨g, cap, cur, hv, Nat.zero_le _, r⟩)⟩, fun x hx => h.ok x (hsub x hx), fun x hx => (h.logs x (hsub x hx)).keep (fun k hk hl => hb k hl (h.lI x (hsub x hx) k hk).2.1), fun x hx k hk => ?_, ⟨.inl h.fI.1, h.fI.2⟩, fun k hk => ?_⟩
  · have h1 := h.lI x (hsub x hx) k hk
    refine ⟨.inl h1.1, h1.2.1, fun e => ?_⟩
    have := (hown.lt k e).1
    have := hs k h1.1
    omega
  · have h1 := hown.lt k hk
    have h2 := hs rb h.fI.1
    exact ⟨.inr h1, by omega, by omega⟩
theorem rdel_use (h : RX c rb I X (a ++ (rd, r, lv) :: b) last av) (hn : (a ++ (rd, r, lv) :: b).length < 1000000) (hno : NoRd a rd) (hr : 0 < r.recs) :
    Calls Tryz.prog 40 #[.pointer (some ⟨rb, 0, none⟩), .int .i64 rd] X fun e Y => e = .returned (.int .i64 9) ∧ X = Y := by
  obtain ⟨g, cap, hav⟩ := h.slice
  have HC : Hid (Calls Tryz.prog 13 #[.pointer (some ⟨rb, 0, none⟩), .int .i64 rd] X fun e Y => e = .returned (.int .i64 (a.length : Int)) ∧ X = Y) := rat_is h hn hno
  have hc1 := h.cells.2.1
  rw [hav] at hc1
  have hlt : a.length < (a ++ (rd, r, lv) :: b).length := by simp
  have hok := h.ok _ (show (rd, r, lv) ∈ a ++ (rd, r, lv) :: b by simp)
  have hg2 := h.get hav 103 (by decide)
  obtain ⟨M, hM⟩ : ∃ M : Int, M = (r.recs : Int) := ⟨_, rfl⟩
  replace hg2 : X.cell? ⟨g, a.length * 104 + 103, none⟩ = some (.int .i64 M) := by rw [hg2]; show (rmL r lv)[102]? = _; rw [rmL_102 hok lv, hM]
  have hM0 : 0 < M := by omega
  obtain ⟨Kk, hKk⟩ : ∃ Kk, Kk = a.length := ⟨_, rfl⟩
  obtain ⟨Nn, hNn⟩ : ∃ Nn, Nn = (a ++ (rd, r, lv) :: b).length := ⟨_, rfl⟩
  rw [← hNn] at hc1 hlt hn
  rw [← hKk] at hlt HC hg2
  have hneg : ¬ (Kk : Int) < 0 := by omega
  have hltI : (Kk : Int) < (Nn : Int) := by omega
  clear hno hav hKk hNn h hM hr
  go_enter Tryz.func40, Tryz.ntmps40
  go_wp2_with fail
  refine Calls.mono HC.out ?_
  rintro e w1 ⟨rfl, rfl⟩
  go_wp2
  go_ret
  exact ⟨rfl, rfl⟩
theorem infoIt : ∃ z, (Tryz.prog.info? 54).map (fun i => (i.zero, i.size, i.bytes)) = some (some z, 104, 176) ∧ z.cells.size = 104 := ⟨.agg (itL (0, zR, .slice none 0 0)).toArray, by kernel_rfl, by kernel_rfl⟩
end
end Go.Proofs.YtekbppfocnbhbaaGreat.XC
