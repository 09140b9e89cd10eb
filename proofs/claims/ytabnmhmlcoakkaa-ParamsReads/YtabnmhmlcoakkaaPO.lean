/- params: the reference's granule and RealmBytes. -/
import Derived.Test.YtabnmhmlcoakkaaPN
set_option linter.unusedVariables false
set_option linter.unusedSimpArgs false
namespace Go.Proofs.Ytabnmhmlcoakkaa.PC
open Go.RowKit

theorem resultsG {fn : Func} {p : Tmp} (h : fn.results = #[.cell p 28]) (tmps : Array Value) (w : World) (g : Nat) (cs : Array Value)
    (hp : tmps.getD p undef = .pointer (some ⟨g, 0, none⟩)) (hg : w.heap[g]? = some (.cells cs 28 (0, 0))) (hi : (Try.prog.info? 28).map (·.size) = some cs.size) :
    (results fn tmps).run Try.prog w = .ok (.agg cs) w := results_cell_row h tmps w g 28 cs (0, 0) _ hp hg Try.underlying28 rfl hi
theorem pd_copy (l : List UInt8) (h : l.length ≤ 128) : splice Z128 0 l = pd l := by
  have := pd_lay [] l l.length (Nat.le_refl _) (by simpa using h)
  rw [pd_nil] at this
  simpa using this
/-- What stays while granule runs. -/
structure GS (w : World) (ZL : List Value) (X : World) : Prop where
  bel : Below w.heap.size w X
  res : X.heap[w.heap.size]? = some (.cells ZL.toArray 28 (0, 0))
  gr : X.heap[w.heap.size + 1]? = some (.cells ZL.toArray 28 (0, 0))
theorem GS.start (w : World) (ZL : List Value) : GS w ZL ((w.alloc (.cells ZL.toArray 28 (0, 0))).alloc (.cells ZL.toArray 28 (0, 0))) :=
  ⟨((Below.refl _ _).alloc (Nat.le_refl _) _).alloc (by simp) _, (Below.heap_alloc _ _ _ (by simp)).trans (heap_alloc_new _ _), heap_at _ _ _ (by simp)⟩
theorem GS.below {w : World} {ZL : List Value} {X Y : World} (h : GS w ZL X) (hb : Below X.heap.size X Y) : GS w ZL Y := by
  obtain ⟨h1, h2, h3⟩ := h
  exact ⟨h1.trans (hb.mono h1.size), (hb.block _ (row_lt h2)).trans h2, (hb.block _ (row_lt h3)).trans h3⟩
set_option maxHeartbeats 1000000 in
theorem granule_any (g cap : Nat) (ls : List (List UInt8)) (w : World) (hl : ls.length ≤ 64) (hf : ls.flatten.length ≤ 128) (hc : HL w g ls) :
    Calls Try.prog 26 #[.slice (some ⟨g, 0, none⟩) ls.length cap] w fun e w' => e = .returned (.agg ((pd ls.flatten).map B8).toArray) ∧ Below w.heap.size w w' := by
  have hzg := fun W => zero_gr W
  obtain ⟨ZL, hZL⟩ : ∃ L, L = Z128.map B8 := ⟨_, rfl⟩
  rw [← hZL] at hzg
  have HGL : Hid (ZL.length = 128) := by show _ = _; rw [hZL, List.length_map, z128_len]
  have HZL : Hid _ := hZL
  clear hZL
  obtain ⟨GL, hGL⟩ : ∃ L, L = (pd ls.flatten).map B8 := ⟨_, rfl⟩
  have hgl : GL.length = 128 := by rw [hGL, List.length_map, pd_len _ hf]
  have HII : Hid _ := info128 GL hgl
  have HIA : Hid _ := info128a GL.toArray (by simpa using hgl)
  have HI1 : Hid (GL.toArray.all (·.oneCell') = true) := by show _ = _; rw [hGL]; exact B8_onea _
  have HIS : Hid (ZL.toArray.size = GL.toArray.size) := by show _ = _; simp [HGL.out, hgl]
  have HIN : Hid (GL.toArray.size = 128) := by show _ = _; simpa using hgl
  have HGLL : Hid _ := hGL
  rw [← hGL]
  have HSP : Hid (splice ZL 0 (ls.flatten.map B8) = GL) := by show _ = _; rw [HZL.out, hGL, splice_map, pd_copy _ hf]
  have HG0 : Hid (GS w ZL _) := GS.start w ZL
  have HC : Hid (HL _ g ls) := (hc.below HG0.out.bel).below (Below.refl _ _).drew
  have HGD : Hid (GS w ZL _) := HG0.out.below (Below.refl _ _).drew
  have HF : Hid _ := hf
  clear hGL hgl hc hf
  have hsl := fun W => slice_gr W (w.heap.size + 1)
  go_enter Try.func26, Try.ntmps26
  go_wp2
  refine wp_region_held_drew (S := fun X => True) (by kernel_rfl) trivial (fun hHeld => ?_)
  refine wpAnyH_take (i := 0) (oi := { dst := some 4, op := Go.Op.slice 28 (Go.Operand.tmp 3) none none none, type := 56, pos := _, after := #[], guard := none }) (v := .slice (some ⟨w.heap.size + 1, 0, none⟩) 128 128) rfl (by kernel_rfl) (by kernel_rfl) (by kernel_rfl) (fun _ _ _ h => h) (Or.inl ⟨by rfl, fun w' hw' => ?_⟩) hHeld ?_
  · first | (go_simp; done) | (go_simp; rfl)
  try simp only [Act.put, List.setIfInBounds_toArray, List.set_cons_zero, List.set_cons_succ]
  refine wpAnyH_take (i := 1) (oi := { dst := some 5, op := Go.Op.move (Go.Operand.tmp 0), type := 65, pos := _, after := #[], guard := none }) (v := .slice (some ⟨g, 0, none⟩) ls.length cap) rfl (by kernel_rfl) (by kernel_rfl) (by kernel_rfl) (fun _ _ _ h => h) (Or.inl ⟨by rfl, fun w' hw' => ?_⟩) hHeld ?_
  · first | (go_simp; done) | (go_simp; rfl)
  try simp only [Act.put, List.setIfInBounds_toArray, List.set_cons_zero, List.set_cons_succ]
  refine wpAnyH_ready (rs := [2]) (by kernel_rfl) (by simp) ?_
  refine AllReadyH.cons (o := { dst := some 6, op := Go.Op.call { callee := Go.Callee.value (Go.Operand.func 34), args := #[Go.Operand.tmp 5], argTypes := #[65] }, type := 56, pos := _, after := #[{ on := 1, ground := Go.Ground.data }], guard := none }) rfl (fun K hK => ?_) AllReadyH.nil
  rw [if_pos (by rfl)]
  go_wp2_with fail
  refine Calls.mono (refJoin_any g cap ls _ (by omega) (by have := HF.out; omega) HC.out) ?_
  rintro e w3 ⟨v3, rfl, hf3, hb3⟩
  have HW3 : Hid _ := HGD.out.below hb3
  have hh3 := hf3.hb
  obtain ⟨p3, c3, rfl, hpn, hpc⟩ := hb_cells hh3
  refine hK.out _ _ trivial (fun _ => ?_)
  clear hK K
  try simp only [Act.put, List.setIfInBounds_toArray, List.set_cons_zero, List.set_cons_succ]
  refine wpAnyH_ready (rs := [3]) (by kernel_rfl) (by simp) ?_
  refine AllReadyH.cons (o := { dst := some 7, op := Go.Op.call { callee := Go.Callee.builtin Go.Builtin.copy, args := #[Go.Operand.tmp 4, Go.Operand.tmp 6], argTypes := #[56, 56] }, type := 3, pos := _, after := #[{ on := 0, ground := Go.Ground.data }, { on := 2, ground := Go.Ground.data }, { on := 2, ground := Go.Ground.chain }], guard := none }) rfl (fun K hK => ?_) AllReadyH.nil
  rw [if_pos (by rfl)]
  refine wp_copy_seg (.tmp 4) (.tmp 6) rfl (w.heap.size + 1) 0 128 128 p3 ls.flatten.length c3 rfl rfl ZL 28 HW3.out.gr (ls.flatten.map B8) ?_ ?_ ?_ (B8_one _) ?_
  · rw [List.length_map]; exact (Nat.min_eq_left HF.out).symm
  · intro h0
    cases p3 with
    | none => rw [(hpn rfl).1] at h0; simp at h0
    | some a => exact ⟨a, rfl, hpc a rfl⟩
  · rw [List.length_map, HGL.out]; have := HF.out; omega
  rw [HSP.out]
  have HR4 : Hid _ := setRow_heap _ _ _ GL.toArray _ _ HW3.out.gr
  have HR0 : Hid ((w3.setRow (w.heap.size + 1) GL.toArray).heap[w.heap.size]? = some (.cells ZL.toArray 28 (0, 0))) := by show _ = _; rw [setRow_other _ _ _ _ (by omega)]; exact HW3.out.res
  have HB4 : Hid (Below w.heap.size w (w3.setRow (w.heap.size + 1) GL.toArray)) := below_setRow HW3.out.bel (by omega) _
  generalize w3.setRow (w.heap.size + 1) GL.toArray = w4 at *
  refine hK.out _ _ trivial (fun _ => ?_)
  clear hK K
  try simp only [Act.put, List.setIfInBounds_toArray, List.set_cons_zero, List.set_cons_succ]
  refine wpAnyH_done (by kernel_rfl) ?_ _
  clear hHeld HC HGD HW3 hf3 hb3 hh3 hpn hpc HSP hsl HF
  go_wp2_with (first
    | (refine wpList_load_row rfl 28 _ rfl (w.heap.size + 1) rfl 28 GL.toArray (0, 0) _ HR4.out Try.underlying28 rfl HIA.out ?_)
    | (refine wpList_store_row rfl 28 _ _ rfl w.heap.size GL.toArray rfl rfl 28 ZL.toArray HR0.out HIA.out HIS.out HI1.out ?_))
  refine bodyPost_ret (v := .agg GL.toArray) (resultsG Try.results26 _ _ w.heap.size GL.toArray rfl (setRow_heap _ _ _ _ _ _ HR0.out) HIA.out) rfl ⟨rfl, below_setRow HB4.out (Nat.le_refl _) _⟩
/-- What stays while the reference's RealmBytes, RecBytes run. -/
structure RB (w : World) (tp : TypeId) (PL : List Value) (X : World) : Prop where
  bel : Below w.heap.size w X
  par : X.heap[w.heap.size]? = some (.cells PL.toArray tp (0, 0))
  res : ∃ Z : Array Value, Z.size = 128 ∧ X.heap[w.heap.size + 1]? = some (.cells Z 28 (0, 0))
theorem RB.start (w : World) (tp : TypeId) (PL ZL : List Value) (h : ZL.length = 128) : RB w tp PL ((w.alloc (.cells PL.toArray tp (0, 0))).alloc (.cells ZL.toArray 28 (0, 0))) :=
  ⟨((Below.refl _ _).alloc (Nat.le_refl _) _).alloc (by simp) _, (Below.heap_alloc _ _ _ (by simp)).trans (heap_alloc_new _ _), ⟨_, by simpa using h, heap_at _ _ _ (by simp)⟩⟩
theorem RB.below {w : World} {tp : TypeId} {PL : List Value} {X Y : World} (h : RB w tp PL X) (hb : Below X.heap.size X Y) : RB w tp PL Y := by
  obtain ⟨h1, h2, Z, z1, z2⟩ := h
  exact ⟨h1.trans (hb.mono h1.size), (hb.block _ (row_lt h2)).trans h2, ⟨Z, z1, (hb.block _ (row_lt z2)).trans z2⟩⟩
theorem RB.put {w : World} {tp : TypeId} {PL : List Value} {X : World} (h : RB w tp PL X) (G : Array Value) (hG : G.size = 128) : RB w tp PL (X.setRow (w.heap.size + 1) G) := by
  obtain ⟨h1, h2, Z, z1, z2⟩ := h
  exact ⟨below_setRow h1 (by omega) _, (setRow_other _ _ _ _ (by omega)).trans h2, ⟨G, hG, setRow_heap _ _ _ _ _ _ z2⟩⟩
theorem hl3 (X : World) (a b c : Value) (la lb lc : List UInt8) (ha : HB X a la) (hb : HB X b lb) (hc : HB X c lc) : HL (X.alloc (.cells #[a, b, c] 56 (0, 0))) X.heap.size [la, lb, lc] := fun i hi => by
  have hr := heap_alloc_new X (.cells #[a, b, c] 56 (0, 0))
  match i, hi with
  | 0, _ => exact ⟨a, by rw [cell_of_row _ _ 0 _ _ _ hr]; rfl, hb_alloc ha _⟩
  | 1, _ => exact ⟨b, by rw [cell_of_row _ _ 1 _ _ _ hr]; rfl, hb_alloc hb _⟩
  | 2, _ => exact ⟨c, by rw [cell_of_row _ _ 2 _ _ _ hr]; rfl, hb_alloc hc _⟩
theorem hl4 (X : World) (a b c d : Value) (la lb lc ld : List UInt8) (ha : HB X a la) (hb : HB X b lb) (hc : HB X c lc) (hd : HB X d ld) : HL (X.alloc (.cells #[a, b, c, d] 56 (0, 0))) X.heap.size [la, lb, lc, ld] := fun i hi => by
  have hr := heap_alloc_new X (.cells #[a, b, c, d] 56 (0, 0))
  match i, hi with
  | 0, _ => exact ⟨a, by rw [cell_of_row _ _ 0 _ _ _ hr]; rfl, hb_alloc ha _⟩
  | 1, _ => exact ⟨b, by rw [cell_of_row _ _ 1 _ _ _ hr]; rfl, hb_alloc hb _⟩
  | 2, _ => exact ⟨c, by rw [cell_of_row _ _ 2 _ _ _ hr]; rfl, hb_alloc hc _⟩
  | 3, _ => exact ⟨d, by rw [cell_of_row _ _ 3 _ _ _ hr]; rfl, hb_alloc hd _⟩
theorem mark_at (s : ByteArray) (k : Nat) (l : List UInt8) (w : World) (hk : s.size + k = 8) (h1 : 1 ≤ k) (hl : sb s ++ List.replicate k 0 = l) :
    Calls Try.prog 27 #[.string s] w fun e w' => ∃ p c, e = .returned (.slice p 8 c) ∧ HB w' (.slice p 8 c) l ∧ Below w.heap.size w w' := by
  refine (mark_any s k w hk h1).mono ?_
  rintro e w' ⟨v, rfl, hh, hb⟩
  rw [hl] at hh
  obtain ⟨p, c, e, _, _⟩ := hb_cells hh
  have h8 : l.length = 8 := by rw [← hl, List.length_append, sb_len, List.length_replicate]; exact hk
  rw [h8] at e
  subst e
  exact ⟨p, c, rfl, hh, hb⟩
theorem word_at (n : Nat) (w : World) (hn : n < 18446744073709551616) :
    Calls Try.prog 28 #[.int .u64 (n : Int)] w fun e w' => ∃ p c, e = .returned (.slice p 8 c) ∧ HB w' (.slice p 8 c) (W1.le 8 n) ∧ Below w.heap.size w w' := by
  refine (refWord_any n w hn).mono ?_
  rintro e w' ⟨v, rfl, hf, hb⟩
  have hh := hf.hb
  obtain ⟨p, c, e, _, _⟩ := hb_cells hh
  rw [W1.le_length] at e
  subst e
  exact ⟨p, c, rfl, hh, hb⟩
theorem granule3 (V : List UInt8) (n : Nat) (hV : V.length = 32) (X : World) (g : Nat) (h : HL X g [[114, 101, 97, 108, 109, 0, 0, 0], V, W1.le 8 n]) :
    Calls Try.prog 26 #[.slice (some ⟨g, 0, none⟩) 3 3] X fun e w' => e = .returned (.agg ((rbL V n).map B8).toArray) ∧ Below X.heap.size X w' := by
  have e : rbL V n = pd [[114, 101, 97, 108, 109, 0, 0, 0], V, W1.le 8 n].flatten := by unfold rbL rbP; simp
  rw [e]
  exact granule_any g 3 _ X (by simp) (by simp [hV, W1.le_length]) h
set_option maxHeartbeats 1000000 in
theorem rrb_any (V : List UInt8) (n : Nat) (w : World) (hV : V.length = 32) (hn : n < 18446744073709551616) :
    Calls Try.prog 13 #[.agg (rpL V n).toArray] w fun e w' => e = .returned (.agg ((rbL V n).map B8).toArray) ∧ Below w.heap.size w w' := by
  have hpl := rpL_len V n hV
  have HVP : Hid (((rpL V n).drop 0).take 32 = V.map B8) := rpL_v V n hV
  have HNP : Hid ((rpL V n)[32]? = some (.int .u64 (n : Int))) := rpL_n V n hV
  generalize rpL V n = PL at *
  have hzg := fun W => zero_gr W
  obtain ⟨ZL, hZL⟩ : ∃ L, L = Z128.map B8 := ⟨_, rfl⟩
  rw [← hZL] at hzg
  have HGL : Hid (ZL.length = 128) := by show _ = _; rw [hZL, List.length_map, z128_len]
  have HZL : Hid _ := hZL
  clear hZL
  obtain ⟨GL, hGL⟩ : ∃ L, L = (rbL V n).map B8 := ⟨_, rfl⟩
  have hgl : GL.length = 128 := by rw [hGL, List.length_map, rbL_len V n hV]
  have HII : Hid _ := info128 GL hgl
  have HIA : Hid _ := info128a GL.toArray (by simpa using hgl)
  have HI1 : Hid (GL.toArray.all (·.oneCell') = true) := by show _ = _; rw [hGL]; exact B8_onea _
  have HIS : Hid (ZL.toArray.size = GL.toArray.size) := by show _ = _; simp [HGL.out, hgl]
  have HIN : Hid (GL.toArray.size = 128) := by show _ = _; simpa using hgl
  have HGLL : Hid _ := hGL
  have hGr := granule3 V n hV
  rw [← hGL] at hGr ⊢
  have HGr : Hid _ := hGr
  have HR0 : Hid _ := (RB.start w 26 PL ZL HGL.out).below (Below.refl _ _).drew
  have hM := fun W => mark_at ⟨#[114, 101, 97, 108, 109]⟩ 3 [114, 101, 97, 108, 109, 0, 0, 0] W (by decide) (by decide) (by decide)
  have hWd := fun W => word_at n W hn
  have hsd := fun W => slice_dg W w.heap.size 0
  have HV : Hid _ := hV
  generalize hLE : W1.le 8 n = LE at *
  generalize hMK : ([114, 101, 97, 108, 109, 0, 0, 0] : List UInt8) = MK at *
  clear hGL hgl hpl hV hGr hLE hMK HGLL
  go_enter Try.func13, Try.ntmps13
  go_wp2
  refine wp_region_held_drew (S := RB w 26 PL) (by kernel_rfl) HR0.out (fun hHeld => ?_)
  refine wpAnyH_take (i := 1) (oi := { dst := some 4, op := Go.Op.fieldAddr 26 (Go.Operand.tmp 1) 0, type := 0, pos := _, after := #[], guard := none }) (v := .pointer (some ⟨w.heap.size, 0, none⟩)) rfl (by kernel_rfl) (by kernel_rfl) (by kernel_rfl) (fun _ _ _ h => h) (Or.inl ⟨by rfl, fun w' hw' => ?_⟩) hHeld ?_
  · first | (go_simp; done) | (go_simp; rfl)
  try simp only [Act.put, List.setIfInBounds_toArray, List.set_cons_zero, List.set_cons_succ]
  refine wpAnyH_take (i := 2) (oi := { dst := some 5, op := Go.Op.slice 23 (Go.Operand.tmp 4) none none none, type := 56, pos := _, after := #[{ on := 1, ground := Go.Ground.data }], guard := none }) (v := .slice (some ⟨w.heap.size, 0, none⟩) 32 32) rfl (by kernel_rfl) (by kernel_rfl) (by kernel_rfl) (fun _ _ _ h => h) (Or.inl ⟨by rfl, fun w' hw' => ?_⟩) hHeld ?_
  · first | (go_simp; done) | (go_simp; rfl)
  try simp only [Act.put, List.setIfInBounds_toArray, List.set_cons_zero, List.set_cons_succ]
  refine wpAnyH_take (i := 3) (oi := { dst := some 6, op := Go.Op.fieldAddr 26 (Go.Operand.tmp 1) 1, type := 0, pos := _, after := #[], guard := none }) (v := .pointer (some ⟨w.heap.size, 32, none⟩)) rfl (by kernel_rfl) (by kernel_rfl) (by kernel_rfl) (fun _ _ _ h => h) (Or.inl ⟨by rfl, fun w' hw' => ?_⟩) hHeld ?_
  · first | (go_simp; done) | (go_simp; rfl)
  try simp only [Act.put, List.setIfInBounds_toArray, List.set_cons_zero, List.set_cons_succ]
  refine wpAnyH_take (i := 4) (oi := { dst := some 7, op := Go.Op.load 24 (Go.Operand.tmp 6), type := 24, pos := _, after := #[{ on := 3, ground := Go.Ground.data }], guard := none }) (v := .int .u64 (n : Int)) rfl (by kernel_rfl) (by kernel_rfl) (by kernel_rfl) (fun _ _ _ h => h) (Or.inl ⟨by rfl, fun w' hw' => ?_⟩) hHeld ?_
  · have hcc : w'.cell? ⟨w.heap.size, 32, none⟩ = some (.int .u64 (n : Int)) := by { rw [cell_of_row _ _ 32 _ _ _ hw'.par, List.getElem?_toArray]; exact HNP.out }; first | (go_simp; done) | (go_simp; rfl)
  try simp only [Act.put, List.setIfInBounds_toArray, List.set_cons_zero, List.set_cons_succ]
  refine wpAnyH_ready (rs := [0]) (by kernel_rfl) (by simp) ?_
  refine AllReadyH.cons (o := { dst := some 3, op := Go.Op.call { callee := Go.Callee.value (Go.Operand.func 27), args := #[Go.Operand.const (Go.Value.string { data := #[114, 101, 97, 108, 109] })], argTypes := #[9] }, type := 56, pos := _, after := #[], guard := none }) rfl (fun K hK => ?_) AllReadyH.nil
  rw [if_pos (by rfl)]
  go_wp2_with fail
  refine Calls.mono (hM _) ?_
  rintro e w3 ⟨p3, c3, rfl, hh3, hb3⟩
  have hHeld3 := hHeld.below hb3
  have HH3 : Hid (HB w3 (.slice p3 8 c3) MK) := hh3
  clear hh3 hb3
  refine hK.out _ _ hHeld3 (fun _ => ?_)
  clear hK K
  try simp only [Act.put, List.setIfInBounds_toArray, List.set_cons_zero, List.set_cons_succ]
  refine wpAnyH_ready (rs := [5]) (by kernel_rfl) (by simp) ?_
  refine AllReadyH.cons (o := { dst := some 8, op := Go.Op.call { callee := Go.Callee.value (Go.Operand.func 28), args := #[Go.Operand.tmp 7], argTypes := #[24] }, type := 56, pos := _, after := #[{ on := 4, ground := Go.Ground.data }, { on := 0, ground := Go.Ground.chain }], guard := none }) rfl (fun K hK => ?_) AllReadyH.nil
  rw [if_pos (by rfl)]
  go_wp2_with fail
  refine Calls.mono (hWd _) ?_
  rintro e w4 ⟨p4, c4, rfl, hh4, hb4⟩
  have hHeld4 := hHeld3.below hb4
  have HH4 : Hid (HB w4 (.slice p4 8 c4) LE) := hh4
  have HH3' : Hid (HB w4 (.slice p3 8 c3) MK) := HB.below HH3.out hb4
  clear hh4 hb4 HH3
  refine hK.out _ _ hHeld4 (fun _ => ?_)
  clear hK K
  try simp only [Act.put, List.setIfInBounds_toArray, List.set_cons_zero, List.set_cons_succ]
  refine wpAnyH_ready (rs := [6]) (by kernel_rfl) (by simp) ?_
  refine AllReadyH.cons (o := { dst := some 9, op := Go.Op.buildSlice 65 3 #[(0, Go.Operand.tmp 3), (1, Go.Operand.tmp 5), (2, Go.Operand.tmp 8)], type := 65, pos := _, after := #[{ on := 0, ground := Go.Ground.data }, { on := 2, ground := Go.Ground.data }, { on := 5, ground := Go.Ground.data }], guard := none }) rfl (fun K hK => ?_) AllReadyH.nil
  rw [if_pos (by rfl)]
  go_wp2_with fail
  have HBV : Hid (HB w4 (.slice (some ⟨w.heap.size, 0, none⟩) 32 32) V) := by
    have h0 := rangeAt_part (rangeAt_row hHeld4.par) 0 32
    rw [HVP.out] at h0
    exact hb_range 32 HV.out.symm (by have := HV.out; omega) (by unfold maxLen; omega) h0
  have HHL : Hid (HL (w4.alloc (.cells #[.slice p3 8 c3, .slice (some ⟨w.heap.size, 0, none⟩) 32 32, .slice p4 8 c4] 56 (0, 0))) w4.heap.size [MK, V, LE]) := hl3 w4 _ _ _ _ _ _ HH3'.out HBV.out HH4.out
  have hHeld5 := hHeld4.below ((Below.refl _ _).alloc (Nat.le_refl _) (.cells #[.slice p3 8 c3, .slice (some ⟨w.heap.size, 0, none⟩) 32 32, .slice p4 8 c4] 56 (0, 0)))
  refine hK.out _ _ hHeld5 (fun _ => ?_)
  clear hK K
  try simp only [Act.put, List.setIfInBounds_toArray, List.set_cons_zero, List.set_cons_succ]
  refine wpAnyH_ready (rs := [7]) (by kernel_rfl) (by simp) ?_
  refine AllReadyH.cons (o := { dst := some 10, op := Go.Op.call { callee := Go.Callee.value (Go.Operand.func 26), args := #[Go.Operand.tmp 9], argTypes := #[65] }, type := 28, pos := _, after := #[{ on := 6, ground := Go.Ground.data }, { on := 5, ground := Go.Ground.chain }], guard := none }) rfl (fun K hK => ?_) AllReadyH.nil
  rw [if_pos (by rfl)]
  go_wp2_with fail
  refine Calls.mono (HGr.out _ _ HHL.out) ?_
  rintro e w6 ⟨rfl, hb6⟩
  have hHeld6 := hHeld5.below hb6
  refine hK.out _ _ hHeld6 (fun _ => ?_)
  clear hK K
  try simp only [Act.put, List.setIfInBounds_toArray, List.set_cons_zero, List.set_cons_succ]
  refine wpAnyH_ready (rs := [8]) (by kernel_rfl) (by simp) ?_
  refine AllReadyH.cons (o := { dst := none, op := Go.Op.store 28 (Go.Operand.tmp 2) (Go.Operand.tmp 10), type := 0, pos := _, after := #[{ on := 7, ground := Go.Ground.data }, { on := 7, ground := Go.Ground.chain }, { on := 0, ground := Go.Ground.phase }, { on := 1, ground := Go.Ground.phase }, { on := 2, ground := Go.Ground.phase }, { on := 3, ground := Go.Ground.phase }, { on := 4, ground := Go.Ground.phase }, { on := 5, ground := Go.Ground.phase }, { on := 6, ground := Go.Ground.phase }, { on := 7, ground := Go.Ground.phase }], guard := none }) rfl (fun K hK => ?_) AllReadyH.nil
  rw [if_pos (by rfl)]
  obtain ⟨Z, hz1, hz2⟩ := hHeld6.res
  refine wp_store_row 28 _ _ rfl (w.heap.size + 1) GL.toArray rfl rfl 28 Z hz2 HIA.out (hz1.trans HIN.out.symm) HI1.out ?_
  have hHeld7 := hHeld6.put GL.toArray HIN.out
  have HR7 : Hid _ := setRow_heap _ _ _ GL.toArray _ _ hz2
  have HB7 : Hid _ := hHeld7.bel
  generalize w6.setRow (w.heap.size + 1) GL.toArray = w7 at *
  refine hK.out _ _ hHeld7 (fun _ => ?_)
  clear hK K
  try simp only [Act.put, List.setIfInBounds_toArray, List.set_cons_zero, List.set_cons_succ]
  refine wpAnyH_done (by kernel_rfl) ?_ _
  clear hHeld hHeld3 hHeld4 hHeld5 hHeld6 hHeld7 hb6 HHL HBV HH4 HH3' hz2 HGr hM hWd hsd
  go_wp2
  refine bodyPost_ret (v := .agg GL.toArray) (resultsG Try.results13 _ _ (w.heap.size + 1) GL.toArray rfl HR7.out HIA.out) rfl ⟨rfl, HB7.out⟩
end Go.Proofs.Ytabnmhmlcoakkaa.PC
