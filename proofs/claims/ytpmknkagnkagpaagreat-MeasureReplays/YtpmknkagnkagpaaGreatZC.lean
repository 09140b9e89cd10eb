/- measure: the statements' two oracles. -/
import Derived.Test.YtpmknkagnkagpaaGreatZZ
set_option linter.unusedVariables false
set_option linter.unusedSimpArgs false
namespace Go.Proofs.YtpmknkagnkagpaaGreat.ZC
open Go.RowKit

theorem build_orG (w : World) (i : Bool) (DL : List Value) (h2 : DL.length = 32) (p : Option Addr) (n c : Nat) : (Instr.build 49 #[(0, .bool i), (1, .agg DL.toArray), (2, .slice p n c)]).run Tryz.prog w = .ok (.agg (.bool i :: (DL ++ [.slice p n c, .int .i64 0, .slice none 0 0])).toArray) w := by
  iterate 32 (obtain ⟨_, _, e, g⟩ := R5.cons_of h2; clear h2; subst e; have h2 := g; clear g)
  obtain rfl := List.eq_nil_of_length_eq_zero h2
  show _ = _
  kernel_rfl
def BoEnd (w : World) (i : Bool) (m : List UInt8) (D : List (List UInt8)) (rows : List (Nat × Array Value × TypeId)) (e : Ending) (Y : World) : Prop :=
  ∃ og mb rg, e = .returned (.tuple #[.pointer (some ⟨og, 0, none⟩), .pointer (some ⟨rg, 0, none⟩)]) ∧ TW w og mb rg i m D [] [] rows Y
set_option maxHeartbeats 1000000 in
set_option maxRecDepth 100000 in
theorem both_any (w X : World) (i : Bool) (m : List UInt8) (p : Option Addr) (n cap : Nat) (D : List (List UInt8)) (rows : List (Nat × Array Value × TypeId)) (hm : m.length = 32) (hpc : p = none → cap = 0) (hl : D.length ≤ 1099511627776) (hD : R5.HDs w (.slice p n cap) D) (hb : Below w.heap.size w X) (hrows : ∀ r ∈ rows, X.heap[r.1]? = some (.cells r.2.1 r.2.2 (0, 0))) :
    Calls Tryz.prog 6 #[.bool i, .agg (m.map B8).toArray, .slice p n cap] X fun e Y => BoEnd w i m D rows e Y := by
  have hDX := R5.hds_below hD hb
  have HNEW : Hid (∀ W, Below X.heap.size X W → Calls Tryz.prog 20 #[.bool i, .agg (m.map B8).toArray, .slice p n cap] W fun e w' => R5.PNew W i m D e w') := fun W hW => R5.pnew_any i m p n cap D W hm hpc hl (R5.hds_below hDX hW)
  have HMI : Hid _ := R5.info32 (m.map B8) (by simpa using hm)
  have HBO : Hid (∀ W, (Instr.build 49 #[(0, .bool i), (1, .agg (m.map B8).toArray), (2, .slice p n cap)]).run Tryz.prog W = .ok (.agg (R5.oL i m (.slice p n cap) 0 (.slice none 0 0)).toArray) W) := fun W => build_orG W i (m.map B8) (by simpa using hm) p n cap
  have hbX : Below X.heap.size X (X.alloc (.cells (m.map B8).toArray 24 (0, 0))).drew := ((Below.refl _ _).alloc (Nat.le_refl _) _).drew
  have HBX : Hid (Below X.heap.size X (X.alloc (.cells (m.map B8).toArray 24 (0, 0))).drew) := hbX
  have HR0 : Hid ((X.alloc (.cells (m.map B8).toArray 24 (0, 0))).drew.heap[X.heap.size]? = some (.cells (m.map B8).toArray 24 (0, 0))) := heap_alloc_new _ _
  have HROWS : Hid (∀ r ∈ rows, X.heap[r.1]? = some (.cells r.2.1 r.2.2 (0, 0))) := hrows
  have HD : Hid (R5.HDs w (.slice p n cap) D) := hD
  have HB : Hid (Below w.heap.size w X) := hb
  obtain ⟨OL, hOL⟩ : ∃ OL, OL = R5.oL i m (.slice p n cap) 0 (.slice none 0 0) := ⟨_, rfl⟩
  rw [← hOL] at HBO
  have HOL : Hid (OL = R5.oL i m (.slice p n cap) 0 (.slice none 0 0)) := hOL
  clear hDX hbX hOL hD hb hrows hpc hl hm
  generalize m.map B8 = ML at *
  go_enter Tryz.func6, Tryz.ntmps6
  go_wp2
  refine wp_region_held_drew (S := fun W => W.heap[X.heap.size]? = some (.cells ML.toArray 24 (0, 0))) (by kernel_rfl) HR0.out (fun hHeld => ?_)
  generalize (X.alloc (.cells ML.toArray 24 (0, 0))).drew = X1 at *
  refine wpAnyH_take (i := 0) (oi := ⟨some 8, .move (.tmp 0), 4, _, #[], none⟩) (v := .bool i) rfl (by kernel_rfl) (by kernel_rfl) (by kernel_rfl) (fun _ _ _ h => h) (Or.inl ⟨by rfl, fun w' hw' => ?_⟩) hHeld ?_
  · first | (go_simp; done) | (go_simp; rfl)
  try simp only [Act.put, qT, q0, qS]
  refine wpAnyH_take (i := 1) (oi := ⟨some 9, .load 24 (.tmp 4), 24, _, #[], none⟩) rfl (by kernel_rfl) (by kernel_rfl) (by kernel_rfl) (fun _ _ _ h => h) (yieldsIf_load_mid (by rfl) 24 (.tmp 4) rfl (X.heap.size) (0) rfl (ML) _ (fun _ h => PC.rangeAt_row h) Tryz.underlying24 rfl HMI.out) hHeld ?_
  try simp only [Act.put, qT, q0, qS]
  refine wpAnyH_take (i := 2) (oi := ⟨some 10, .move (.tmp 2), 22, _, #[], none⟩) (v := .slice p n cap) rfl (by kernel_rfl) (by kernel_rfl) (by kernel_rfl) (fun _ _ _ h => h) (Or.inl ⟨by rfl, fun w' hw' => ?_⟩) hHeld ?_
  · first | (go_simp; done) | (go_simp; rfl)
  try simp only [Act.put, qT, q0, qS]
  refine wpAnyH_take (i := 4) (oi := { dst := some 12, op := .move (.tmp 0), type := 4, pos := _, after := #[{ on := 9, ground := .gcOnly Go.Departure.lateStores }], guard := none }) (v := .bool i) rfl (by kernel_rfl) (by kernel_rfl) (by kernel_rfl) (fun _ _ _ h => h) (Or.inl ⟨by rfl, fun w' hw' => ?_⟩) hHeld ?_
  · first | (go_simp; done) | (go_simp; rfl)
  try simp only [Act.put, qT, q0, qS]
  refine wpAnyH_take (i := 5) (oi := { dst := some 13, op := .load 24 (.tmp 4), type := 24, pos := _, after := #[{ on := 9, ground := .gcOnly Go.Departure.lateStores }], guard := none }) rfl (by kernel_rfl) (by kernel_rfl) (by kernel_rfl) (fun _ _ _ h => h) (yieldsIf_load_mid (by rfl) 24 (.tmp 4) rfl (X.heap.size) (0) rfl (ML) _ (fun _ h => PC.rangeAt_row h) Tryz.underlying24 rfl HMI.out) hHeld ?_
  try simp only [Act.put, qT, q0, qS]
  refine wpAnyH_take (i := 6) (oi := { dst := some 14, op := .move (.tmp 2), type := 22, pos := _, after := #[{ on := 9, ground := .gcOnly Go.Departure.lateStores }], guard := none }) (v := .slice p n cap) rfl (by kernel_rfl) (by kernel_rfl) (by kernel_rfl) (fun _ _ _ h => h) (Or.inl ⟨by rfl, fun w' hw' => ?_⟩) hHeld ?_
  · first | (go_simp; done) | (go_simp; rfl)
  try simp only [Act.put, qT, q0, qS]
  refine wpAnyH_take (i := 7) (oi := { dst := some 15, op := .build 49 #[(0, .tmp 12), (1, .tmp 13), (2, .tmp 14)], type := 49, pos := _, after := #[⟨4, .data⟩, ⟨5, .data⟩, ⟨6, .data⟩, { on := 9, ground := .gcOnly Go.Departure.lateStores }], guard := none }) (v := .agg OL.toArray) rfl (by kernel_rfl) (by kernel_rfl) (by kernel_rfl) (fun _ _ _ h => h) (Or.inl ⟨by rfl, fun w' hw' => ?_⟩) hHeld ?_
  · exact R5.exec_build _ _ 49 _ _ _ w' rfl (by simp; first | done | rfl | exact ⟨rfl, rfl, rfl⟩) (HBO.out w')
  try simp only [Act.put, qT, q0, qS]
  refine wpAnyH_ready (rs := [3, 8]) (by kernel_rfl) (by simp) ?_
  refine AllReadyH.cons (o := { dst := some 11, op := .call { callee := Go.Callee.value (.func 20), args := #[.tmp 8, .tmp 9, .tmp 10], argTypes := #[4, 24, 22] }, type := 35, pos := _, after := #[⟨0, .data⟩, ⟨1, .data⟩, ⟨2, .data⟩], guard := none }) rfl (fun K hK => ?_) (AllReadyH.cons (o := { dst := some 16, op := .box 49 (.tmp 15), type := 36, pos := _, after := #[⟨7, .data⟩, { on := 9, ground := .gcOnly Go.Departure.lateStores }], guard := none }) rfl (fun K hK => ?_) AllReadyH.nil)
  all_goals rw [if_pos (by rfl)]
  · go_wp2_with fail
    refine Calls.mono (HNEW.out X1 HBX.out) ?_
    rintro e V ⟨og, mb, dv, rfl, hpo, hbV, hdv⟩
    have hHV : V.heap[X.heap.size]? = some (.cells ML.toArray 24 (0, 0)) := (hbV.block _ (PC.row_lt hHeld)).trans hHeld
    refine hK.out _ _ hHV (fun _ => ?_)
    clear hK K
    try simp only [Act.put, qT, q0, qS]
    have hHeld := hHV
    have hsX := HBX.out.size
    have hsV := hbV.size
    have hsw := HB.out.size
    have hbV' : Below X.heap.size X V := HBX.out.trans (hbV.mono hsX)
    have HTW : Hid (TW w og mb V.heap.size i m D [] [] rows (V.alloc (.cells OL.toArray 49 (0, 0)))) := by
      refine TW.start (X := X) (V := V) (v0 := .slice p n cap) (po_lower hpo (by omega)) (HB.out.trans (hbV'.mono hsw)) HB.out (hbV'.alloc hbV'.size _) HD.out (fun k hk => ?_) (by simp) (by omega) (fun k hk => by have := hpo.low k hk; omega) (by rw [← HOL.out]; exact heap_alloc_new _ _) HROWS.out
      have hkl : k < V.heap.size := hk.elim (hpo.top k) (fun e => (hpo.dro k e).2)
      exact ⟨by omega, heap_alloc_old _ _ hkl⟩
    have hHA : (V.alloc (.cells OL.toArray 49 (0, 0))).heap[X.heap.size]? = some (.cells ML.toArray 24 (0, 0)) := (heap_alloc_old _ _ (PC.row_lt hHV)).trans hHV
    clear hpo hbV hdv hbV' hsX hsV hsw
    refine wpAnyH_take (i := 9) (oi := { dst := some 6, op := .assign (.tmp 11), type := 35, pos := _, after := #[⟨3, .data⟩, ⟨3, .chain⟩, ⟨0, .phase⟩, ⟨1, .phase⟩, ⟨2, .phase⟩, ⟨3, .phase⟩, { on := 4, ground := .textOnly Go.Departure.lateStores }, { on := 5, ground := .textOnly Go.Departure.lateStores }, { on := 6, ground := .textOnly Go.Departure.lateStores }, { on := 7, ground := .textOnly Go.Departure.lateStores }, { on := 8, ground := .textOnly Go.Departure.lateStores }], guard := none }) (v := .pointer (some ⟨og, 0, none⟩)) rfl (by kernel_rfl) (by kernel_rfl) (by kernel_rfl) (fun _ _ _ h => h) (Or.inl ⟨by rfl, fun w' hw' => ?_⟩) hHeld ?_
    · first | (go_simp; done) | (go_simp; rfl)
    try simp only [Act.put, qT, q0, qS]
    refine wpAnyH_ready (rs := [8]) (by kernel_rfl) (by simp) ?_
    refine AllReadyH.cons (o := { dst := some 16, op := .box 49 (.tmp 15), type := 36, pos := _, after := #[⟨7, .data⟩, { on := 9, ground := .gcOnly Go.Departure.lateStores }], guard := none }) rfl (fun K hK => ?_) AllReadyH.nil
    rw [if_pos (by rfl)]
    go_wp2_with fail
    refine hK.out _ _ hHA (fun _ => ?_)
    clear hK K
    try simp only [Act.put, qT, q0, qS]
    have hHeld := hHA
    refine wpAnyH_take (i := 10) (oi := ⟨some 7, .assign (.tmp 16), 36, _, #[⟨8, .data⟩, ⟨9, .chain⟩, ⟨0, .phase⟩, ⟨1, .phase⟩, ⟨2, .phase⟩, ⟨3, .phase⟩, ⟨4, .phase⟩, ⟨5, .phase⟩, ⟨6, .phase⟩, ⟨7, .phase⟩, ⟨8, .phase⟩, ⟨9, .phase⟩], none⟩) (v := .pointer (some ⟨V.heap.size, 0, none⟩)) rfl (by kernel_rfl) (by kernel_rfl) (by kernel_rfl) (fun _ _ _ h => h) (Or.inl ⟨by rfl, fun w' hw' => ?_⟩) hHeld ?_
    · first | (go_simp; done) | (go_simp; rfl)
    try simp only [Act.put, qT, q0, qS]
    refine wpAnyH_done (by kernel_rfl) ?_ _
    clear hHeld hHA hHV
    go_wp2
    go_ret2
    exact ⟨og, mb, V.heap.size, rfl, HTW.out⟩
  · have hHA : (X1.alloc (.cells OL.toArray 49 (0, 0))).heap[X.heap.size]? = some (.cells ML.toArray 24 (0, 0)) := (heap_alloc_old _ _ (PC.row_lt hHeld)).trans hHeld
    have HB2 : Hid (Below X.heap.size X (X1.alloc (.cells OL.toArray 49 (0, 0)))) := HBX.out.alloc HBX.out.size _
    have HR2 : Hid ((X1.alloc (.cells OL.toArray 49 (0, 0))).heap[X1.heap.size]? = some (.cells OL.toArray 49 (0, 0))) := heap_alloc_new _ _
    have HS2 : Hid ((X1.alloc (.cells OL.toArray 49 (0, 0))).heap.size = X1.heap.size + 1) := by show _ = _; simp
    go_wp2_with fail
    refine hK.out _ _ hHA (fun _ => ?_)
    clear hK K
    try simp only [Act.put, qT, q0, qS]
    have hHeld := hHA
    generalize hxs : X1.heap.size = xs at *
    generalize X1.alloc (.cells OL.toArray 49 (0, 0)) = X2 at *
    refine wpAnyH_ready (rs := [3]) (by kernel_rfl) (by simp) ?_
    refine AllReadyH.cons (o := { dst := some 11, op := .call { callee := Go.Callee.value (.func 20), args := #[.tmp 8, .tmp 9, .tmp 10], argTypes := #[4, 24, 22] }, type := 35, pos := _, after := #[⟨0, .data⟩, ⟨1, .data⟩, ⟨2, .data⟩], guard := none }) rfl (fun K hK => ?_) AllReadyH.nil
    rw [if_pos (by rfl)]
    go_wp2_with fail
    refine Calls.mono (HNEW.out X2 HB2.out) ?_
    rintro e V ⟨og, mb, dv, rfl, hpo, hbV, hdv⟩
    have hHV : V.heap[X.heap.size]? = some (.cells ML.toArray 24 (0, 0)) := (hbV.block _ (PC.row_lt hHeld)).trans hHeld
    refine hK.out _ _ hHV (fun _ => ?_)
    clear hK K
    try simp only [Act.put, qT, q0, qS]
    have hHeld := hHV
    have hsX := HBX.out.size
    have hs2 := HS2.out
    have hsV := hbV.size
    have hsw := HB.out.size
    have hbV' : Below X.heap.size X V := HB2.out.trans (hbV.mono HB2.out.size)
    have HTW : Hid (TW w og mb xs i m D [] [] rows V) := by
      refine TW.start (X := X) (V := V) (v0 := .slice p n cap) (po_lower hpo (by omega)) (HB.out.trans (hbV'.mono hsw)) HB.out hbV' HD.out (fun k hk => ?_) (Nat.le_refl _) (by omega) (fun k hk => by have := hpo.low k hk; omega) (by rw [← HOL.out]; exact (hbV.block _ (PC.row_lt HR2.out)).trans HR2.out) HROWS.out
      have hkl : X2.heap.size ≤ k := hk.elim (hpo.low k) (hdv k)
      exact ⟨by omega, rfl⟩
    clear hpo hbV hdv hbV' hsX hsV hsw
    refine wpAnyH_take (i := 9) (oi := { dst := some 6, op := .assign (.tmp 11), type := 35, pos := _, after := #[⟨3, .data⟩, ⟨3, .chain⟩, ⟨0, .phase⟩, ⟨1, .phase⟩, ⟨2, .phase⟩, ⟨3, .phase⟩, { on := 4, ground := .textOnly Go.Departure.lateStores }, { on := 5, ground := .textOnly Go.Departure.lateStores }, { on := 6, ground := .textOnly Go.Departure.lateStores }, { on := 7, ground := .textOnly Go.Departure.lateStores }, { on := 8, ground := .textOnly Go.Departure.lateStores }], guard := none }) (v := .pointer (some ⟨og, 0, none⟩)) rfl (by kernel_rfl) (by kernel_rfl) (by kernel_rfl) (fun _ _ _ h => h) (Or.inl ⟨by rfl, fun w' hw' => ?_⟩) hHeld ?_
    · first | (go_simp; done) | (go_simp; rfl)
    try simp only [Act.put, qT, q0, qS]
    refine wpAnyH_take (i := 10) (oi := ⟨some 7, .assign (.tmp 16), 36, _, #[⟨8, .data⟩, ⟨9, .chain⟩, ⟨0, .phase⟩, ⟨1, .phase⟩, ⟨2, .phase⟩, ⟨3, .phase⟩, ⟨4, .phase⟩, ⟨5, .phase⟩, ⟨6, .phase⟩, ⟨7, .phase⟩, ⟨8, .phase⟩, ⟨9, .phase⟩], none⟩) (v := .pointer (some ⟨xs, 0, none⟩)) rfl (by kernel_rfl) (by kernel_rfl) (by kernel_rfl) (fun _ _ _ h => h) (Or.inl ⟨by rfl, fun w' hw' => ?_⟩) hHeld ?_
    · first | (go_simp; done) | (go_simp; rfl)
    try simp only [Act.put, qT, q0, qS]
    refine wpAnyH_done (by kernel_rfl) ?_ _
    clear hHeld hHA hHV
    go_wp2
    go_ret2
    exact ⟨og, mb, xs, rfl, HTW.out⟩
theorem rpage_any (pg : Int) (w : World) : Calls Tryz.prog 30 #[.int .i64 pg] w fun e w' => e = .returned (.bool (decide (0 ≤ pg ∧ pg < 128))) ∧ w' = w := by
  by_cases h : 0 ≤ pg
  · by_cases h2 : pg < 128
    · have hd : decide (0 ≤ pg ∧ pg < 128) = true := decide_eq_true ⟨h, h2⟩
      rw [hd]
      clear hd
      go_enter Tryz.func30, Tryz.ntmps30
      go_wp2
      go_ret
      exact ⟨rfl, rfl⟩
    · have hd : decide (0 ≤ pg ∧ pg < 128) = false := decide_eq_false (fun h => h2 h.2)
      rw [hd]
      clear hd
      go_enter Tryz.func30, Tryz.ntmps30
      go_wp2
      go_ret
      exact ⟨rfl, rfl⟩
  · have hd : decide (0 ≤ pg ∧ pg < 128) = false := decide_eq_false (fun h' => h h'.1)
    rw [hd]
    clear hd
    go_enter Tryz.func30, Tryz.ntmps30
    go_wp2
    go_ret
    exact ⟨rfl, rfl⟩
end Go.Proofs.YtpmknkagnkagpaaGreat.ZC
