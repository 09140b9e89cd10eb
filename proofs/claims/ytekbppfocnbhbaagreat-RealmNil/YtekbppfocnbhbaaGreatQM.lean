/- Contract of the program's New. -/
import Derived.Test.YtekbppfocnbhbaaGreatQL
set_option linter.unusedVariables false
set_option linter.unusedSimpArgs false
namespace Go.Proofs.YtekbppfocnbhbaaGreat.R5
open scoped Classical
open Go.RowKit

set_option maxHeartbeats 4000000 in
set_option maxRecDepth 100000 in
theorem build_po (w : World) (i : Bool) (DL : List Value) (h2 : DL.length = 32) (p : Option Addr) (n c mb : Nat) : (Instr.build 116 #[(0, .bool i), (1, .agg DL.toArray), (2, .slice p n c), (4, .map (some mb))]).run Tryz.prog w = .ok (.agg (.bool i :: (DL ++ [.slice p n c, .slice none 0 0, .map (some mb)])).toArray) w := by
  iterate 32 (obtain ⟨_, _, e, g⟩ := cons_of h2; clear h2; subst e; have h2 := g; clear g)
  obtain rfl := List.eq_nil_of_length_eq_zero h2
  show _ = _
  kernel_rfl
/-- How New ends. -/
def PNew (w : World) (i : Bool) (m : List UInt8) (ds : List (List UInt8)) (e : Ending) (w' : World) : Prop :=
  ∃ og mb dv, e = .returned (.pointer (some ⟨og, 0, none⟩)) ∧ PO w.heap.size og mb (fun k => k = og ∨ k = mb) w' ⟨i, m, ds, []⟩ dv (.slice none 0 0) ∧ Below w.heap.size w w' ∧ ∀ k, dv.ownBlock = some k → w.heap.size ≤ k
theorem po_new {w W : World} {i : Bool} {m : List UInt8} {ds : List (List UInt8)} {dv : Value} {mb : Nat} (hml : m.length = 32) (hd : W.ownsRow w.heap.size 33 32 dv ds.length (dC ds)) (hdl : ∀ d ∈ ds, d.length = 32) (hm : W.heap[mb]? = some (.map #[] 0)) (hmb : w.heap.size ≤ mb) (hb : Below w.heap.size w W) :
    PO w.heap.size W.heap.size mb (fun k => k = W.heap.size ∨ k = mb) (W.alloc (.cells (pL i m dv (.slice none 0 0) mb).toArray 116 (0, 0))) ⟨i, m, ds, []⟩ dv (.slice none 0 0) := by
  have hmW := row_lt hm
  refine ⟨hml, heap_alloc_new _ _, hds_own hdl (hd.alloc _), fun k e => ?_, ⟨fun x hx => by simp at hx, by simp⟩, World.ownsRow_nil _ _ _ _, ⟨#[], 0, (heap_alloc_old _ _ hmW).trans hm, by simp⟩, .inl rfl, .inr rfl, fun k e => by simp [Value.ownBlock] at e, fun k h => ?_, fun k h => ?_⟩
  · have hk := hd.lt k e
    refine ⟨fun h => h.elim (fun h => by omega) (fun h => ?_), by simp; omega⟩
    subst h
    rcases hd.2 with ⟨e1, _⟩ | ⟨g, cap, cur, e1, _, e3, _⟩
    · rw [e1] at e; cases e
    · rw [e1] at e
      have e' : g = k := by simpa [Value.ownBlock] using e
      rw [e', hm] at e3
      cases e3
  · rcases h with h | h
    · have := hb.size; omega
    · omega
  · rcases h with h | h <;> simp <;> omega
theorem own_lower {B B' : Nat} {e : TypeId} {s : Nat} {v : Value} {n : Nat} {xs : List Value} {w : World} (h : w.ownsRow B e s v n xs) (hB : B' ≤ B) : w.ownsRow B' e s v n xs := by
  refine ⟨h.1, h.2.imp id ?_⟩
  rintro ⟨g, cap, cur, e1, e2, e3⟩
  exact ⟨g, cap, cur, e1, Nat.le_trans hB e2, e3⟩
/-- While New runs. -/
structure SNw (w : World) (ML : List Value) (X : World) : Prop where
  b : Below w.heap.size w X
  m : X.heap[w.heap.size]? = some (.cells ML.toArray 33 (0, 0))

set_option maxHeartbeats 4000000 in
set_option maxRecDepth 100000 in
theorem pnew_any (i : Bool) (m : List UInt8) (p : Option Addr) (n cap : Nat) (ds : List (List UInt8)) (w : World) (hml : m.length = 32) (hpc : p = none → cap = 0) (hl : ds.length ≤ 1099511627776) (h : HDs w (.slice p n cap) ds) :
    Calls Tryz.prog 32 #[.bool i, .agg (m.map B8).toArray, .slice p n cap] w fun e w' => PNew w i m ds e w' := by
  have hdl := h.1
  have hcl := fun W (hb : Below w.heap.size w W) => cloneD_any p n cap ds W hpc hl (hds_below h hb)
  have HCL : Hid (∀ W, Below w.heap.size w W → Calls Tryz.prog 72 #[.slice p n cap] W fun e w' => ∃ v, e = .returned v ∧ w'.ownsRow W.heap.size 33 32 v ds.length (dC ds) ∧ Below W.heap.size W w') := hcl
  have HML : Hid ((m.map B8).length = 32) := by show _ = _; simpa using hml
  have HMI : Hid _ := info32 (m.map B8) HML.out
  have hb1 : Below w.heap.size w (w.alloc (.cells (m.map B8).toArray 33 (0, 0))).drew := ((Below.refl _ _).alloc (Nat.le_refl _) _).drew
  have HS : Hid (SNw w (m.map B8) (w.alloc (.cells (m.map B8).toArray 33 (0, 0))).drew) := ⟨hb1, heap_at _ _ _ rfl⟩
  have hmm := @run_makeMap Tryz.prog
  clear hcl h hb1
  go_enter Tryz.func32, Tryz.ntmps32
  go_wp2
  refine wp_region_held_drew (S := SNw w (m.map B8)) (by kernel_rfl) HS.out (fun hHeld => ?_)
  generalize (w.alloc (.cells (m.map B8).toArray 33 (0, 0))).drew = W1 at *
  refine wpAnyH_take (i := 0) (oi := { dst := some 7, op := Go.Op.move (Go.Operand.tmp 0), type := 4, pos := _, after := #[], guard := none }) (v := .bool i) rfl (by kernel_rfl) (by kernel_rfl) (by kernel_rfl) (fun _ _ _ h => h) (Or.inl ⟨by rfl, fun w' hw' => ?_⟩) hHeld ?_
  · first | (go_simp; done) | (go_simp; rfl)
  try simp only [Act.put, List.setIfInBounds_toArray, List.set_cons_zero, List.set_cons_succ]
  refine wpAnyH_take (i := 1) (oi := { dst := some 8, op := Go.Op.load 33 (Go.Operand.tmp 4), type := 33, pos := _, after := #[], guard := none }) rfl (by kernel_rfl) (by kernel_rfl) (by kernel_rfl) (fun _ _ _ h => h) (yieldsIf_load_mid (by rfl) 33 (.tmp 4) rfl (w.heap.size) (0) rfl (m.map B8) _ (fun _ h => rangeAt_row h.m) Tryz.underlying33 rfl HMI.out) hHeld ?_
  try simp only [Act.put, List.setIfInBounds_toArray, List.set_cons_zero, List.set_cons_succ]
  refine wpAnyH_take (i := 2) (oi := { dst := some 9, op := Go.Op.move (Go.Operand.tmp 2), type := 22, pos := _, after := #[], guard := none }) (v := .slice p n cap) rfl (by kernel_rfl) (by kernel_rfl) (by kernel_rfl) (fun _ _ _ h => h) (Or.inl ⟨by rfl, fun w' hw' => ?_⟩) hHeld ?_
  · first | (go_simp; done) | (go_simp; rfl)
  try simp only [Act.put, List.setIfInBounds_toArray, List.set_cons_zero, List.set_cons_succ]
  have hs1 := hHeld.b.size
  have hm1 := row_lt hHeld.m
  refine wpAnyH_ready (rs := [3, 4]) (by kernel_rfl) (by simp) ?_
  refine AllReadyH.cons (o := { dst := some 10, op := Go.Op.call { callee := Go.Callee.value (Go.Operand.func 72), args := #[Go.Operand.tmp 9], argTypes := #[22] }, type := 22, pos := _, after := #[{ on := 2, ground := Go.Ground.data }], guard := none }) rfl (fun K hK => ?_) (AllReadyH.cons (o := { dst := some 11, op := Go.Op.makeMap 114 none, type := 114, pos := _, after := #[], guard := none }) rfl (fun K hK => ?_) AllReadyH.nil)
  all_goals rw [if_pos (by rfl)]
  · go_wp2_with fail
    refine Calls.mono (HCL.out W1 hHeld.b) ?_
    rintro e w2 ⟨v3, rfl, hv3, hb2⟩
    have hs2 := hb2.size
    have hHeld2 : SNw w (m.map B8) w2 := ⟨hHeld.b.trans (hb2.mono (by omega)), (hb2.block _ hm1).trans hHeld.m⟩
    clear hHeld
    refine hK.out _ _ hHeld2 (fun _ => ?_)
    clear hK K
    try simp only [Act.put, List.setIfInBounds_toArray, List.set_cons_zero, List.set_cons_succ]
    have hHeld := hHeld2
    refine wpAnyH_ready (rs := [4]) (by kernel_rfl) (by simp) ?_
    refine AllReadyH.cons (o := { dst := some 11, op := Go.Op.makeMap 114 none, type := 114, pos := _, after := #[], guard := none }) rfl (fun K hK => ?_) AllReadyH.nil
    rw [if_pos (by rfl)]
    go_wp2_with fail
    have hHeld3 : SNw w (m.map B8) (w2.alloc (.map #[] 0)) := ⟨hHeld2.b.alloc (by omega) _, (heap_alloc_old _ _ (by omega)).trans hHeld2.m⟩
    refine hK.out _ _ hHeld3 (fun _ => ?_)
    clear hK K
    try simp only [Act.put, List.setIfInBounds_toArray, List.set_cons_zero, List.set_cons_succ]
    have HV3 : Hid ((w2.alloc (.map #[] 0)).ownsRow w.heap.size 33 32 v3 ds.length (dC ds)) := own_lower (hv3.alloc _) (by omega)
    obtain ⟨mb, hmb⟩ : ∃ mb, mb = w2.heap.size := ⟨_, rfl⟩
    have HMB : Hid ((w2.alloc (.map #[] 0)).heap[mb]? = some (.map #[] 0)) := by rw [hmb]; exact heap_alloc_new _ _
    rw [← hmb]
    have hmbl : w.heap.size ≤ mb := by omega
    have hHeld := hHeld3
    clear hHeld2 hHeld3 hv3 hb2 hmb
    generalize w2.alloc (.map #[] 0) = U at *
    obtain ⟨p3, c3, hv3⟩ : ∃ p c, v3 = .slice p ds.length c := by
      rcases HV3.out.2 with ⟨e1, e2⟩ | ⟨g, cap, cur, e1, _⟩
      · exact ⟨none, 0, by rw [e1, e2]⟩
      · exact ⟨_, cap, e1⟩
    subst hv3
    have HBK : Hid _ := fun W => build_po W i (m.map B8) HML.out p3 ds.length c3 mb
    have HPL : Hid (Value.bool i :: (m.map B8 ++ [.slice p3 ds.length c3, .slice none 0 0, .map (some mb)]) = pL i m (.slice p3 ds.length c3) (.slice none 0 0) mb) := rfl
    rw [HPL.out] at HBK
    have hPO := po_new (i := i) hml HV3.out hdl HMB.out (by omega) hHeld.b
    have HPO : Hid _ := hPO
    clear HPL hPO
    generalize pL i m (.slice p3 ds.length c3) (.slice none 0 0) mb = PL at *
    refine wpAnyH_take (i := 5) (oi := { dst := some 12, op := Go.Op.build 116 #[(0, Go.Operand.tmp 7), (1, Go.Operand.tmp 8), (2, Go.Operand.tmp 10), (4, Go.Operand.tmp 11)], type := 116, pos := _, after := #[{ on := 0, ground := Go.Ground.data }, { on := 1, ground := Go.Ground.data }, { on := 3, ground := Go.Ground.data }, { on := 4, ground := Go.Ground.data }], guard := none }) (v := .agg PL.toArray) rfl (by kernel_rfl) (by kernel_rfl) (by kernel_rfl) (fun _ _ _ h => h) (Or.inl ⟨by rfl, fun w' hw' => ?_⟩) hHeld ?_
    · exact exec_build _ _ 116 _ _ _ w' rfl (by simp; exact ⟨rfl, rfl, rfl, rfl⟩) (HBK.out w')
    try simp only [Act.put, List.setIfInBounds_toArray, List.set_cons_zero, List.set_cons_succ]
    refine wpAnyH_ready (rs := [6]) (by kernel_rfl) (by simp) ?_
    refine AllReadyH.cons (o := { dst := some 13, op := Go.Op.box 116 (Go.Operand.tmp 12), type := 25, pos := _, after := #[{ on := 5, ground := Go.Ground.data }], guard := none }) rfl (fun K hK => ?_) AllReadyH.nil
    rw [if_pos (by rfl)]
    go_wp2_with fail
    have hHeldZ : SNw w (m.map B8) (U.alloc (.cells PL.toArray 116 (0, 0))) := ⟨hHeld.b.alloc (by have := hHeld.b.size; omega) _, (heap_alloc_old _ _ (row_lt hHeld.m)).trans hHeld.m⟩
    refine hK.out _ _ hHeldZ (fun _ => ?_)
    clear hK K
    try simp only [Act.put, List.setIfInBounds_toArray, List.set_cons_zero, List.set_cons_succ]
    have hHeld := hHeldZ
    refine wpAnyH_ready (rs := [7]) (by kernel_rfl) (by simp) ?_
    refine AllReadyH.cons (o := { dst := some 6, op := Go.Op.assign (Go.Operand.tmp 13), type := 25, pos := _, after := #[{ on := 6, ground := Go.Ground.data }, { on := 3, ground := Go.Ground.chain }, { on := 0, ground := Go.Ground.phase }, { on := 1, ground := Go.Ground.phase }, { on := 2, ground := Go.Ground.phase }, { on := 3, ground := Go.Ground.phase }, { on := 4, ground := Go.Ground.phase }, { on := 5, ground := Go.Ground.phase }, { on := 6, ground := Go.Ground.phase }], guard := none }) rfl (fun K hK => ?_) AllReadyH.nil
    rw [if_pos (by rfl)]
    go_wp2_with fail
    refine hK.out _ _ hHeldZ (fun _ => ?_)
    clear hK K
    try simp only [Act.put, List.setIfInBounds_toArray, List.set_cons_zero, List.set_cons_succ]
    refine wpAnyH_done (by kernel_rfl) ?_ _
    have HBZ : Hid _ := hHeldZ.b
    clear hHeld hHeldZ
    go_wp2
    go_ret
    exact ⟨_, mb, _, rfl, HPO.out, HBZ.out, fun k e => (HV3.out.lt k e).1⟩
  · go_wp2_with fail
    have hHeld2 : SNw w (m.map B8) (W1.alloc (.map #[] 0)) := ⟨hHeld.b.alloc (by omega) _, (heap_alloc_old _ _ hm1).trans hHeld.m⟩
    have HMW : Hid ((W1.alloc (.map #[] 0)).heap[W1.heap.size]? = some (.map #[] 0)) := heap_alloc_new _ _
    have hs3 : (W1.alloc (.map #[] 0)).heap.size = W1.heap.size + 1 := by simp
    clear hHeld
    refine hK.out _ _ hHeld2 (fun _ => ?_)
    clear hK K
    try simp only [Act.put, List.setIfInBounds_toArray, List.set_cons_zero, List.set_cons_succ]
    have hHeld := hHeld2
    refine wpAnyH_ready (rs := [3]) (by kernel_rfl) (by simp) ?_
    refine AllReadyH.cons (o := { dst := some 10, op := Go.Op.call { callee := Go.Callee.value (Go.Operand.func 72), args := #[Go.Operand.tmp 9], argTypes := #[22] }, type := 22, pos := _, after := #[{ on := 2, ground := Go.Ground.data }], guard := none }) rfl (fun K hK => ?_) AllReadyH.nil
    rw [if_pos (by rfl)]
    go_wp2_with fail
    refine Calls.mono (HCL.out _ hHeld2.b) ?_
    rintro e U ⟨v3, rfl, hv3, hb2⟩
    have hs2 := hb2.size
    obtain ⟨mb, hmb⟩ : ∃ mb, mb = W1.heap.size := ⟨_, rfl⟩
    have hHeld3 : SNw w (m.map B8) U := ⟨hHeld2.b.trans (hb2.mono (by omega)), (hb2.block _ (by omega)).trans hHeld2.m⟩
    have HV3 : Hid (U.ownsRow w.heap.size 33 32 v3 ds.length (dC ds)) := own_lower hv3 (by omega)
    have HMB : Hid (U.heap[mb]? = some (.map #[] 0)) := by rw [hmb]; exact (hb2.block _ (by omega)).trans HMW.out
    rw [← hmb]
    have hmbl : w.heap.size ≤ mb := by omega
    clear hHeld
    refine hK.out _ _ hHeld3 (fun _ => ?_)
    clear hK K
    try simp only [Act.put, List.setIfInBounds_toArray, List.set_cons_zero, List.set_cons_succ]
    have hHeld := hHeld3
    clear hHeld2 hHeld3 hv3 hb2 hmb HMW hs3 hs2
    obtain ⟨p3, c3, hv3⟩ : ∃ p c, v3 = .slice p ds.length c := by
      rcases HV3.out.2 with ⟨e1, e2⟩ | ⟨g, cap, cur, e1, _⟩
      · exact ⟨none, 0, by rw [e1, e2]⟩
      · exact ⟨_, cap, e1⟩
    subst hv3
    have HBK : Hid _ := fun W => build_po W i (m.map B8) HML.out p3 ds.length c3 mb
    have HPL : Hid (Value.bool i :: (m.map B8 ++ [.slice p3 ds.length c3, .slice none 0 0, .map (some mb)]) = pL i m (.slice p3 ds.length c3) (.slice none 0 0) mb) := rfl
    rw [HPL.out] at HBK
    have hPO := po_new (i := i) hml HV3.out hdl HMB.out (by omega) hHeld.b
    have HPO : Hid _ := hPO
    clear HPL hPO
    generalize pL i m (.slice p3 ds.length c3) (.slice none 0 0) mb = PL at *
    refine wpAnyH_take (i := 5) (oi := { dst := some 12, op := Go.Op.build 116 #[(0, Go.Operand.tmp 7), (1, Go.Operand.tmp 8), (2, Go.Operand.tmp 10), (4, Go.Operand.tmp 11)], type := 116, pos := _, after := #[{ on := 0, ground := Go.Ground.data }, { on := 1, ground := Go.Ground.data }, { on := 3, ground := Go.Ground.data }, { on := 4, ground := Go.Ground.data }], guard := none }) (v := .agg PL.toArray) rfl (by kernel_rfl) (by kernel_rfl) (by kernel_rfl) (fun _ _ _ h => h) (Or.inl ⟨by rfl, fun w' hw' => ?_⟩) hHeld ?_
    · exact exec_build _ _ 116 _ _ _ w' rfl (by simp; exact ⟨rfl, rfl, rfl, rfl⟩) (HBK.out w')
    try simp only [Act.put, List.setIfInBounds_toArray, List.set_cons_zero, List.set_cons_succ]
    refine wpAnyH_ready (rs := [6]) (by kernel_rfl) (by simp) ?_
    refine AllReadyH.cons (o := { dst := some 13, op := Go.Op.box 116 (Go.Operand.tmp 12), type := 25, pos := _, after := #[{ on := 5, ground := Go.Ground.data }], guard := none }) rfl (fun K hK => ?_) AllReadyH.nil
    rw [if_pos (by rfl)]
    go_wp2_with fail
    have hHeldZ : SNw w (m.map B8) (U.alloc (.cells PL.toArray 116 (0, 0))) := ⟨hHeld.b.alloc (by have := hHeld.b.size; omega) _, (heap_alloc_old _ _ (row_lt hHeld.m)).trans hHeld.m⟩
    refine hK.out _ _ hHeldZ (fun _ => ?_)
    clear hK K
    try simp only [Act.put, List.setIfInBounds_toArray, List.set_cons_zero, List.set_cons_succ]
    have hHeld := hHeldZ
    refine wpAnyH_ready (rs := [7]) (by kernel_rfl) (by simp) ?_
    refine AllReadyH.cons (o := { dst := some 6, op := Go.Op.assign (Go.Operand.tmp 13), type := 25, pos := _, after := #[{ on := 6, ground := Go.Ground.data }, { on := 3, ground := Go.Ground.chain }, { on := 0, ground := Go.Ground.phase }, { on := 1, ground := Go.Ground.phase }, { on := 2, ground := Go.Ground.phase }, { on := 3, ground := Go.Ground.phase }, { on := 4, ground := Go.Ground.phase }, { on := 5, ground := Go.Ground.phase }, { on := 6, ground := Go.Ground.phase }], guard := none }) rfl (fun K hK => ?_) AllReadyH.nil
    rw [if_pos (by rfl)]
    go_wp2_with fail
    refine hK.out _ _ hHeldZ (fun _ => ?_)
    clear hK K
    try simp only [Act.put, List.setIfInBounds_toArray, List.set_cons_zero, List.set_cons_succ]
    refine wpAnyH_done (by kernel_rfl) ?_ _
    have HBZ : Hid _ := hHeldZ.b
    clear hHeld hHeldZ
    go_wp2
    go_ret
    exact ⟨_, mb, _, rfl, HPO.out, HBZ.out, fun k e => (HV3.out.lt k e).1⟩
end Go.Proofs.YtekbppfocnbhbaaGreat.R5
