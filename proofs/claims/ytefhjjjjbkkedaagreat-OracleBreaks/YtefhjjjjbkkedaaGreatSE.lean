/- Contract of the program's Copy. -/
import Derived.Test.YtefhjjjjbkkedaaGreatQP
import Derived.Shelf.SlMaps.Clone
set_option linter.unusedVariables false
set_option linter.unusedSimpArgs false
namespace Go.Proofs.YtefhjjjjbkkedaaGreat.R5.PS
open scoped Classical
open Go.RowKit

theorem kC_len {l : List (Qn × List UInt8)} (h : lOk l) : (kC l).length = l.length * 35 := by
  have : ∀ l : List (Qn × List UInt8), (∀ x ∈ l, x.1.key.length = 32) → (kC l).length = l.length * 35 := by
    intro l
    induction l with
    | nil => intro _; rfl
    | cons x l ih =>
      intro hx
      unfold kC
      rw [List.flatMap_cons, List.length_append, kL_len x.1 (hx x (by simp))]
      have := ih (fun y hy => hx y (by simp [hy]))
      unfold kC at this
      rw [this, List.length_cons]; omega
  exact this l (fun x hx => (h.all x hx).1.key)
theorem kC_one (l : List (Qn × List UInt8)) : ∀ u ∈ kC l, u.oneCell' = true := by
  intro u hu
  obtain ⟨x, _, hx⟩ := List.mem_flatMap.1 hu
  have := kL_onea x.1
  rw [Array.all_eq_true_iff_forall_mem] at this
  exact this u (by simpa using hx)
set_option maxRecDepth 100000 in
/-- slices.Clone of questions. -/
theorem cloneQ_any {B : Nat} {ov : Value} {l : List (Qn × List UInt8)} {w : World} (h : w.ownsRow B 74 35 ov l.length (kC l)) (hl : l.length < 1000000) :
    Calls Tryz.prog 26 #[ov] w fun e w' => ∃ v, e = .returned v ∧ w'.ownsRow w.heap.size 74 35 v l.length (kC l) ∧ Below w.heap.size w w' := by
  have qT : ∀ (w : World) (r : Option Addr) (n c : Nat), (binOp .eql 65 (.slice r n c) (.slice none 0 0)).run Tryz.prog w = .ok (.bool r.isNone) w := fun w r n c => Lib.run_eql_slice_nil w _ _ r n c 0 0 Tryz.underlying65
  rcases h.2 with ⟨e1, e2⟩ | ⟨g, cap, cur, e1, e2, e3, e4, e5, e6, e7⟩
  · subst e1
    have hl0 : l = [] := List.eq_nil_of_length_eq_zero e2
    subst hl0
    clear h
    go_enter Tryz.func26, Tryz.ntmps26
    go_wp2
    go_ret
    exact ⟨_, rfl, World.ownsRow_nil _ _ _ _, Below.refl _ _⟩
  · subst e1
    have HL : Hid _ := h.1
    have HO1 : Hid _ := kC_one l
    obtain ⟨N, hN⟩ : ∃ N, N = l.length := ⟨_, rfl⟩
    have HN' : Hid (∀ j u, (kC l)[j]? = some u → (w.alloc (.cells #[] 74 (0, 0))).cell? ((⟨g, 0, none⟩ : Addr).add j) = some u) := fun j u hu => by
      have hj : j < l.length * 35 := by have := (List.getElem?_eq_some_iff.1 hu).1; rw [h.1] at this; exact this
      have hc : w.cell? ⟨g, 0 + j, none⟩ = some u := by
        rw [cell_of_row _ _ _ _ _ _ e3, ← Array.getElem?_toList, Nat.zero_add]
        rw [← e7, List.getElem?_take, if_pos hj] at hu
        exact hu
      rw [add_none]
      exact (Below.cell ((Below.refl _ w).alloc (Nat.le_refl _) _) (block_lt hc)).trans hc
    obtain ⟨i0, hi, hz0, hz1, hz2⟩ := info_parts infoKq
    have HOE : Hid ((w.alloc (.cells #[] 74 (0, 0))).ownsRow w.heap.size 74 35 (.slice (some ⟨w.heap.size, 0, none⟩) 0 0) 0 []) := ⟨rfl, .inr ⟨w.heap.size, 0, #[], rfl, Nat.le_refl _, heap_alloc_new _ _, Nat.le_refl _, by unfold maxLen; omega, rfl, rfl⟩⟩
    have hN6 : N < 1000000 := by rw [hN]; exact hl
    have HNN : Hid _ := hN
    rw [← hN] at HL ⊢
    clear h e2 e3 e4 e5 e6 e7 hN
    go_enter Tryz.func26, Tryz.ntmps26
    go_wp2_with (at_builtin; (refine wpList_append_own _ rfl (.tmp 5) (.tmp 6) 65 rfl w.heap.size 74 i0 (.agg zKq) 35 64 Tryz.underlying65 hi hz0 hz1 hz2 rfl (by decide) (.slice (some ⟨w.heap.size, 0, none⟩) 0 0) 0 [] rfl HOE.out ⟨g, 0, none⟩ N cap (kC l) rfl HL.out HN'.out HO1.out (by unfold maxLen; omega) (by omega) (by simp) ?_; intro v1 w1 hown1 hgr1 _))
    go_ret
    rw [List.nil_append, Nat.zero_add] at hown1
    exact ⟨_, rfl, hown1, ((Below.refl _ w).alloc (Nat.le_refl _) _).grown hgr1 (by simp) (fun k e => by have e' : w.heap.size = k := (by simpa [Value.ownBlock] using e); omega)⟩
set_option maxRecDepth 100000 in
/-- maps.Clone of answers. -/
theorem cloneM_any {mb : Nat} {es : Array MapEntry} {clock : Nat} (w : World) (hb : w.heap[mb]? = some (.map es clock)) :
    Calls Tryz.prog 27 #[.map (some mb)] w fun e w' => e = .returned (.map (some w.heap.size)) ∧ w' = w.alloc (.map es clock) := by
  have hq := fun w => run_eql_map_nil_sl (P := Tryz.prog) w 64 _ _ (some mb) Tryz.underlying64
  go_enter Tryz.func27, Tryz.ntmps27
  go_wp2
  rw [run_callFunc_extern Tryz.func49 (by kernel_rfl) (by kernel_rfl) (by kernel_rfl) (e := Extern.MapsClone.clone) (by kernel_rfl), run_maps_clone_sl w 64 hb]
  simp only [Result.andThen]
  rw [Oper.upon_value]
  go_wp2
  rw [run_typeAssert_map_sl _ 64 _ _ _ _ Tryz.underlying64]
  simp only [Result.andThen]
  rw [Oper.upon_value]
  go_wp2
  go_ret
  exact ⟨rfl, rfl⟩
theorem pL_set35 (i : Bool) (m : List UInt8) (dv ov : Value) (mb : Nat) (h : m.length = 32) (mb' : Nat) : (pL i m dv ov mb).toArray.setIfInBounds 35 (.map (some mb')) = (pL i m dv ov mb').toArray := by
  unfold pL
  rw [List.setIfInBounds_toArray, show (35 : Nat) = 34 + 1 from rfl, List.set_cons_succ, List.set_append_right _ _ (by simp [h])]
  simp [h]
def zO : List Value := Value.bool false :: ((List.replicate 32 (0 : UInt8)).map B8 ++ [.slice none 0 0, .slice none 0 0, .map none])
theorem zero_o (w : World) : (zeroValue 67).run Tryz.prog w = .ok (.agg zO.toArray) w := by kernel_rfl
theorem info36 (RS : List Value) (h : RS.length = 36) : (Tryz.prog.info? 67).map (·.size) = some RS.length := by rw [h]; kernel_rfl
theorem info36a (RS : Array Value) (h : RS.size = 36) : (Tryz.prog.info? 67).map (·.size) = some RS.size := by rw [h]; kernel_rfl
/-- How Copy ends. -/
def CopyEnd (w : World) (o : Pra) (dv : Value) (e : Ending) (w' : World) : Prop :=
  ∃ og mb ov, e = .returned (.pointer (some ⟨og, 0, none⟩)) ∧ PO w.heap.size og mb (fun k => w.heap.size ≤ k ∧ k < w'.heap.size) w' o dv ov ∧ Below w.heap.size w w'
theorem po_copy {B og mb : Nat} {S : Nat → Prop} {w X Y : World} {o : Pra} {dv ov v : Value} {es : Array MapEntry} {clock : Nat} (h : PO B og mb S w o dv ov) (hes : (es.toList.map fun e => (e.key, e.val)).Perm (o.log.map fun x => (kV x.1, dV x.2))) (hwX : Below w.heap.size w X) (hsX : w.heap.size + 1 ≤ X.heap.size) (hv : X.ownsRow (w.heap.size + 1) 74 35 v o.log.length (kC o.log)) (hm : Y.heap[X.heap.size]? = some (.map es clock)) (hr : Y.heap[w.heap.size]? = some (.cells (pL o.ideal o.master dv v X.heap.size).toArray 67 (0, 0))) (hY : Below w.heap.size w Y) (hsY : X.heap.size < Y.heap.size) (hk : ∀ j, v.ownBlock = some j → Y.heap[j]? = X.heap[j]?) :
    PO w.heap.size w.heap.size X.heap.size (fun k => w.heap.size ≤ k ∧ k < Y.heap.size) Y o dv v := by
  have hd := fun k e => h.dro k e
  refine ⟨h.ml, hr, hds_below h.draws hY, fun k e => ⟨fun hg => by have := (hd k e).2; omega, by have := (hd k e).2; omega⟩, h.ok, ?_, ⟨es, clock, hm, hes⟩, ⟨Nat.le_refl _, by omega⟩, ⟨by omega, hsY⟩, fun k e => ?_, fun k hk => hk.1, fun k hk => hk.2⟩
  · exact own_lower (own_keep hv (fun j e hl => hk j e)) (by omega)
  · have := hv.lt k e
    exact ⟨⟨by omega, by omega⟩, by omega⟩
set_option maxHeartbeats 2000000 in
set_option maxRecDepth 100000 in
theorem pcopy_any {B og mb : Nat} {S : Nat → Prop} {w : World} {o : Pra} {dv ov : Value} (ho : PO B og mb S w o dv ov) (hll : o.log.length < 1000000) :
    Calls Tryz.prog 9 #[.pointer (some ⟨og, 0, none⟩)] w fun e w' => CopyEnd w o dv e w' := by
  obtain ⟨c0, c33, c34, hc, cf⟩ := ho.cells
  obtain ⟨es, clock, hmap, hes⟩ := ho.map
  have HNN : Hid _ := none_no og mb w hc
  have hz := fun W => zero_o W
  obtain ⟨ZA, hZA⟩ : ∃ A, A = zO.toArray := ⟨_, rfl⟩
  rw [← hZA] at hz
  have HZS : Hid (ZA.size = 36) := by show _ = _; rw [hZA]; rfl
  have HPN : Hid ((pL o.ideal o.master dv ov mb).length = 36) := pL_len _ _ _ _ _ ho.ml
  have HPI : Hid _ := info36 _ HPN.out
  have HROW : Hid _ := rangeAt_row ho.row
  have HO : Hid _ := ho
  have HES : Hid _ := hes
  obtain ⟨pd, cd, hdvf⟩ : ∃ p c, dv = .slice p o.draws.length c := by obtain ⟨_, p, c, e, _⟩ := ho.draws; exact ⟨p, c, e⟩
  obtain ⟨po, co, hovf⟩ := ho.ordV
  have HP1 : Hid ((pL o.ideal o.master dv ov mb).toArray.all (·.oneCell') = true) := by
    show _ = _
    rw [Array.all_eq_true_iff_forall_mem]
    intro x hx
    rw [List.mem_toArray] at hx
    unfold pL at hx
    rcases List.mem_cons.1 hx with rfl | hx
    · rfl
    · rcases List.mem_append.1 hx with hx | hx
      · exact B8_one _ x hx
      · simp only [List.mem_cons, List.not_mem_nil, or_false] at hx
        rcases hx with rfl | rfl | rfl
        · rw [hdvf]; rfl
        · rw [hovf]; rfl
        · rfl
  have HS34 : Hid (∀ v', (pL o.ideal o.master dv ov mb).toArray.setIfInBounds 34 v' = (pL o.ideal o.master dv v' mb).toArray) := fun v' => pL_set34 _ _ _ _ _ ho.ml v'
  have HS35 : Hid (∀ v' mb', (pL o.ideal o.master dv v' mb).toArray.setIfInBounds 35 (.map (some mb')) = (pL o.ideal o.master dv v' mb').toArray) := fun v' mb' => pL_set35 _ _ _ _ _ ho.ml mb'
  have HA34 : Hid ((pL o.ideal o.master dv ov mb).toArray[34]? = some ov) := pL_at o.ideal o.master dv ov mb ho.ml 1
  have HA35 : Hid (∀ v', (pL o.ideal o.master dv v' mb).toArray[35]? = some (.map (some mb))) := fun v' => pL_at o.ideal o.master dv v' mb ho.ml 2
  have hog := row_lt ho.row
  have hmb := ho.map.lt
  obtain ⟨PA, hPA⟩ : ∃ L, L = pL o.ideal o.master dv ov mb := ⟨_, rfl⟩
  rw [← hPA] at HPN HPI HROW HP1 HS34 HA34
  have HPS : Hid (PA.toArray.size = 36) := by show _ = _; simpa using HPN.out
  have HRW : Hid ((w.alloc (.cells ZA 67 (0, 0))).heap[w.heap.size]? = some (.cells ZA 67 (0, 0))) := heap_alloc_new _ _
  have HM : Hid _ := hmap
  rw [hovf] at c34
  have HC34 : Hid _ := c34
  have HC35 : Hid _ := hc
  clear hZA hPA ho hes hdvf c0 c33 cf hmap hc c34
  go_enter Tryz.func9, Tryz.ntmps9
  go_wp2_with (first
    | (go_at_call 25; refine Calls.mono HNN.out ?_; rintro e w1 ⟨rfl, hw1⟩; rw [hw1]; clear hw1 w1)
    | (refine wpList_load_mid rfl 67 _ rfl og 0 rfl PA _ HROW.out Tryz.underlying67 rfl HPI.out ?_)
    | (refine wpList_store_rowL rfl 67 _ _ rfl w.heap.size PA.toArray rfl rfl 67 ZA HRW.out (info36a _ HPS.out) (HZS.out.trans HPS.out.symm) HP1.out ?_; intro X1 hX1; have HB1 : Hid (Below w.heap.size w X1) := (by rw [hX1]; exact below_setRow ((Below.refl _ _).alloc (Nat.le_refl _) _) (Nat.le_refl _) _); have HR1 : Hid (X1.heap[w.heap.size]? = some (.cells PA.toArray 67 (0, 0))) := (by rw [hX1]; exact setRow_heap _ _ _ _ _ _ HRW.out); have hs1 : X1.heap.size = w.heap.size + 1 := (by rw [hX1]; simp); have HSZ1 : Hid _ := hs1; have hc1 := (HB1.out.cell (show (⟨og, 34, none⟩ : Addr).block < w.heap.size from hog)).trans HC34.out; clear hX1 hs1)
    | (go_at_call 26; fail))
  have hown1 : X1.ownsRow B 74 35 (.slice po o.log.length co) o.log.length (kC o.log) := by
    have h := own_keep HO.out.order (fun j e hl => HB1.out.block j hl)
    rw [hovf] at h
    exact h
  refine Calls.mono (cloneQ_any hown1 hll) ?_
  rintro e X2 ⟨v2, rfl, hown2, hb2⟩
  rw [HSZ1.out] at hown2
  obtain ⟨p2, k2, hv2⟩ : ∃ p c, v2 = .slice p o.log.length c := by
    rcases hown2.2 with ⟨e1, e2⟩ | ⟨g, cap, cur, e1, _⟩
    · exact ⟨none, 0, by rw [e1, e2]⟩
    · exact ⟨_, cap, e1⟩
  subst hv2
  have hs2 := hb2.size
  have hsz := HSZ1.out
  have hwX2 : Below w.heap.size w X2 := HB1.out.trans (hb2.mono (by omega))
  have hr2 : X2.heap[w.heap.size]? = some (.cells PA.toArray 67 (0, 0)) := (hb2.block _ (by omega)).trans HR1.out
  have hc2 : X2.cell? ⟨w.heap.size, 34, none⟩ = some ov := by rw [cell_of_row _ _ 34 _ _ _ hr2]; exact HA34.out
  rw [hovf] at hc2
  have hf2 := frozen_of_row _ _ 34 _ _ hr2
  have HR3 : Hid ((X2.setCell ⟨w.heap.size, 34, none⟩ (.slice p2 o.log.length k2)).heap[w.heap.size]? = some (.cells (pL o.ideal o.master dv (.slice p2 o.log.length k2) mb).toArray 67 (0, 0))) := by show _ = _; rw [heap_setCell_same _ _ 34 _ _ _ hr2, HS34.out]
  have HB3 : Hid (Below w.heap.size w (X2.setCell ⟨w.heap.size, 34, none⟩ (.slice p2 o.log.length k2))) := hwX2.setCell (Nat.le_refl _) _
  have HK3 : Hid (∀ j, j ≠ w.heap.size → (X2.setCell ⟨w.heap.size, 34, none⟩ (.slice p2 o.log.length k2)).heap[j]? = X2.heap[j]?) := fun j hj => heap_setCell_other _ _ _ _ hj
  have HZ3 : Hid ((X2.setCell ⟨w.heap.size, 34, none⟩ (.slice p2 o.log.length k2)).heap.size = X2.heap.size) := by show _ = _; simp
  have HOWN : Hid (X2.ownsRow (w.heap.size + 1) 74 35 (.slice p2 o.log.length k2) o.log.length (kC o.log)) := hown2
  have HWX : Hid _ := hwX2
  have hc3 : (X2.setCell ⟨w.heap.size, 34, none⟩ (.slice p2 o.log.length k2)).cell? ⟨og, 35, none⟩ = some (.map (some mb)) := (HB3.out.cell (show (⟨og, 35, none⟩ : Addr).block < w.heap.size from hog)).trans HC35.out
  have HM3 : Hid ((X2.setCell ⟨w.heap.size, 34, none⟩ (.slice p2 o.log.length k2)).heap[mb]? = some (.map es clock)) := (HB3.out.block _ hmb).trans HM.out
  clear hown2 hwX2 hr2 hb2 hown1 hc1
  go_wp2_with (go_at_call 27; fail)
  generalize X2.setCell ⟨w.heap.size, 34, none⟩ (.slice p2 o.log.length k2) = X3 at *
  refine Calls.mono (cloneM_any X3 HM3.out) ?_
  rintro e X4 ⟨rfl, hX4⟩
  have hb4 : Below X3.heap.size X3 X4 := by rw [hX4]; exact (Below.refl _ _).alloc (Nat.le_refl _) _
  have hm4 : X4.heap[X3.heap.size]? = some (.map es clock) := by rw [hX4]; exact heap_alloc_new _ _
  have HZ4 : Hid (X4.heap.size = X3.heap.size + 1) := by show _ = _; rw [hX4]; simp
  have hr4 : X4.heap[w.heap.size]? = some (.cells (pL o.ideal o.master dv (.slice p2 o.log.length k2) mb).toArray 67 (0, 0)) := (hb4.block _ (row_lt HR3.out)).trans HR3.out
  have hc4 : X4.cell? ⟨w.heap.size, 35, none⟩ = some (.map (some mb)) := by rw [cell_of_row _ _ 35 _ _ _ hr4]; exact HA35.out _
  have hf4 := frozen_of_row _ _ 35 _ _ hr4
  have HE : Hid (CopyEnd w o dv (.returned (.pointer (some ⟨w.heap.size, 0, none⟩))) (X4.setCell ⟨w.heap.size, 35, none⟩ (.map (some X3.heap.size)))) := by
    have h3s := HZ3.out
    have hs4 := HZ4.out
    have hws := HWX.out.size
    have hwl : w.heap.size < X3.heap.size := row_lt HR3.out
    have hY : Below w.heap.size w (X4.setCell ⟨w.heap.size, 35, none⟩ (.map (some X3.heap.size))) := (HB3.out.trans (hb4.mono (by omega))).setCell (Nat.le_refl _) _
    refine ⟨w.heap.size, X3.heap.size, .slice p2 o.log.length k2, rfl, ?_, hY⟩
    rw [h3s] at hY hm4 ⊢
    refine po_copy (X := X2) (clock := clock) HO.out HES.out HWX.out (by omega) HOWN.out ?_ ?_ hY ?_ (fun j e => ?_)
    · rw [heap_setCell_other _ _ _ _ (by show X2.heap.size ≠ w.heap.size; omega)]; exact hm4
    · rw [heap_setCell_same _ _ 35 _ _ _ hr4, HS35.out]
    · simp; omega
    · have hj := HOWN.out.lt j e
      rw [heap_setCell_other _ _ _ _ (by show j ≠ w.heap.size; omega), hb4.block j (by omega), HK3.out j (by omega)]
  clear hX4 hr4 hm4 hb4
  go_wp2
  go_ret
  exact HE.out
end Go.Proofs.YtefhjjjjbkkedaaGreat.R5.PS
