/- The program's oracle in concrete mode: a stream is reckoned, and noted. -/
import Derived.Test.YtbmmibmfjhehhaaGreatBO
import Derived.Test.YtbmmibmfjhehhaaGreatBH
import Derived.Test.YtbmmibmfjhehhaaGreatAz
import Derived.Test.YtbmmibmfjhehhaaGreatWt
set_option linter.unusedVariables false
set_option linter.unusedSimpArgs false
namespace Go.Proofs.YtbmmibmfjhehhaaGreat.BC
open Go.RowKit

theorem results_two {fn : Func} {p u : Tmp} (h : fn.results = #[.cell p 86, .cell u 86]) (tmps : Array Value) (w : World) (g k : Nat) (t t' : TypeId) (cs ks : Array Value) (fr fr' : Nat × Nat)
    (hp : tmps.getD p undef = .pointer (some ⟨g, 0, none⟩)) (hx : tmps.getD u undef = .pointer (some ⟨k, 0, none⟩)) (hg : w.heap[g]? = some (.cells cs t fr)) (hk : w.heap[k]? = some (.cells ks t' fr'))
    (hi : (Tryz.prog.info? 86).map (·.size) = some cs.size) (hi' : (Tryz.prog.info? 86).map (·.size) = some ks.size) :
    (results fn tmps).run Tryz.prog w = .ok (.tuple #[.agg cs, .agg ks]) w := by
  have hp' : tmps[p]?.getD undef = .pointer (some ⟨g, 0, none⟩) := by simpa using hp
  have hx' : tmps[u]?.getD undef = .pointer (some ⟨k, 0, none⟩) := by simpa using hx
  simp [results, h, hp', hx', asAddr, run_loadVar_row w g t 86 cs fr _ hg Tryz.underlying86 rfl hi, run_loadVar_row w k t' 86 ks fr' _ hk Tryz.underlying86 rfl hi']

theorem half_1 (w : World) (b : Nat) : (Instr.sliceAt 23 (.pointer (some ⟨b, 0, none⟩)) none (some (.int .i64 16)) none).run Tryz.prog w = .ok (.slice (some ⟨b, 0, none⟩) 16 32) w := by
  have ha : Tryz.prog.arrayLen 23 = 32 := by kernel_rfl
  have hu : Tryz.prog.underlying 23 = some (.array (Tryz.prog.arrayLen 23) (Tryz.prog.elem 23)) := by kernel_rfl
  have he : Tryz.prog.elem 23 = 5 := by kernel_rfl
  rw [run_sliceAt_array_h w 23 _ hu .i64 _ (by decide) (by rw [ha]; decide), he, size_u8, ha]
  have hadd : (⟨b, 0, none⟩ : Addr).add (0 * 1) = ⟨b, 0, none⟩ := by unfold Addr.add; split <;> simp_all
  simp only [Result.andThen, slicedAt]
  rw [if_neg (by decide), hadd]
  rfl
theorem half_2 (w : World) (b : Nat) : (Instr.sliceAt 23 (.pointer (some ⟨b, 0, none⟩)) (some (.int .i64 16)) none none).run Tryz.prog w = .ok (.slice (some ⟨b, 16, none⟩) 16 16) w := by
  have ha : Tryz.prog.arrayLen 23 = 32 := by kernel_rfl
  have hu : Tryz.prog.underlying 23 = some (.array (Tryz.prog.arrayLen 23) (Tryz.prog.elem 23)) := by kernel_rfl
  have he : Tryz.prog.elem 23 = 5 := by kernel_rfl
  rw [run_sliceAt_array_l w 23 _ hu .i64 _ (by decide) (by rw [ha]; decide), he, size_u8, ha]
  have hadd : (⟨b, 0, none⟩ : Addr).add (16 * 1) = ⟨b, 16, none⟩ := by unfold Addr.add; split <;> simp_all
  simp only [Result.andThen, slicedAt]
  rw [if_neg (by decide)]
  show Result.ok (Value.slice (some ((⟨b, 0, none⟩ : Addr).add (16 * 1))) _ _) w = _
  rw [hadd]
  rfl

def HS1 (w : World) (D1 D2 : List Value) (w' : World) : Prop :=
  w'.rangeAt w.heap.size 0 D1 ∧ w'.rangeAt w.heap.size 16 D2 ∧ (∃ Z : Array Value, Z.size = 16 ∧ w'.heap[w.heap.size + 1]? = some (.cells Z 86 (0, 0))) ∧ (∃ Z : Array Value, Z.size = 16 ∧ w'.heap[w.heap.size + 2]? = some (.cells Z 86 (0, 0))) ∧ Below w.heap.size w w'
theorem HS1.set1 {w a : World} {D1 D2 : List Value} (h : HS1 w D1 D2 a) (N : Array Value) (hn : N.size = 16) : HS1 w D1 D2 (a.setRow (w.heap.size + 1) N) := by
  obtain ⟨h1, h2, ⟨Z, z1, z2⟩, ⟨Y, y1, y2⟩, h3⟩ := h
  exact ⟨rangeAt_setRow h1 (by omega), rangeAt_setRow h2 (by omega), ⟨N, hn, setRow_heap _ _ _ _ _ _ z2⟩, ⟨Y, y1, (setRow_other _ _ _ _ (by omega)).trans y2⟩, below_setRow h3 (by omega) _⟩
theorem HS1.set2 {w a : World} {D1 D2 : List Value} (h : HS1 w D1 D2 a) (N : Array Value) (hn : N.size = 16) : HS1 w D1 D2 (a.setRow (w.heap.size + 2) N) := by
  obtain ⟨h1, h2, ⟨Z, z1, z2⟩, ⟨Y, y1, y2⟩, h3⟩ := h
  exact ⟨rangeAt_setRow h1 (by omega), rangeAt_setRow h2 (by omega), ⟨Z, z1, (setRow_other _ _ _ _ (by omega)).trans z2⟩, ⟨N, hn, setRow_heap _ _ _ _ _ _ y2⟩, below_setRow h3 (by omega) _⟩

set_option maxHeartbeats 4000000 in
set_option maxRecDepth 100000 in
theorem half_any (d : List UInt8) (w : World) (hd : d.length = 32) :
    Calls Tryz.prog 69 #[.agg (d.map B8).toArray] w fun e w' => e = .returned (.tuple #[.agg ((d.take 16).map B8).toArray, .agg ((d.drop 16).map B8).toArray]) ∧ Below w.heap.size w w' := by
  obtain ⟨D1, hD1⟩ : ∃ D1, D1 = (d.take 16).map B8 := ⟨_, rfl⟩
  obtain ⟨D2, hD2⟩ : ∃ D2, D2 = (d.drop 16).map B8 := ⟨_, rfl⟩
  have hl1 : D1.length = 16 := by rw [hD1]; simp [hd]
  have hl2 : D2.length = 16 := by rw [hD2]; simp [hd]
  obtain ⟨DA, hDA⟩ : ∃ DA, DA = (d.map B8).toArray := ⟨_, rfl⟩
  have hcat : DA = (D1 ++ D2).toArray := by rw [hDA, hD1, hD2, ← List.map_append, List.take_append_drop]
  have hi1 : (Tryz.prog.info? 86).map (·.size) = some D1.length := by rw [hl1]; kernel_rfl
  have hi2 : (Tryz.prog.info? 86).map (·.size) = some D2.length := by rw [hl2]; kernel_rfl
  have HA1 : Hid (D1.toArray.all (·.oneCell') = true) := by show _ = _; rw [hD1]; exact B8_onea _
  have HA2 : Hid (D2.toArray.all (·.oneCell') = true) := by show _ = _; rw [hD2]; exact B8_onea _
  rw [← hDA, ← hD1, ← hD2]
  have hu := Tryz.underlying86
  have hs1 := fun W => half_1 W w.heap.size
  have hs2 := fun W => half_2 W w.heap.size
  have ha1 := fun W => run_arrayAt (P := Tryz.prog) W 86 5 16 (some ⟨w.heap.size, 0, none⟩) 16 32 Tryz.underlying86 (by omega)
  have ha2 := fun W => run_arrayAt (P := Tryz.prog) W 86 5 16 (some ⟨w.heap.size, 16, none⟩) 16 16 Tryz.underlying86 (by omega)
  have HL1 : Hid _ := hl1
  have HL2 : Hid _ := hl2
  have HC : Hid _ := hcat
  clear hD1 hD2 hDA hd hcat hl1 hl2
  go_enter Tryz.func69, Tryz.ntmps69
  go_wp2
  refine wp_region_held_drew (S := HS1 w D1 D2) (by kernel_rfl) ?_ (fun hHeld => ?_)
  · have h0 : ∀ b c : Obj, (((w.alloc (.cells DA 23)).alloc b).alloc c).drew.heap[w.heap.size]? = some (.cells (D1 ++ D2).toArray 23 (0, 0)) := fun b c => by rw [h3a, HC.out]
    refine ⟨?_, ?_, ⟨_, rfl, h3b _ _ _ _⟩, ⟨_, rfl, h3c _ _ _ _⟩, ((((Below.refl _ _).alloc (Nat.le_refl _) _).alloc (by simp) _).alloc (by simp; omega) _).drew⟩
    · intro j v hv
      rw [Nat.zero_add, cell_of_row _ _ j _ _ _ (h0 _ _)]
      have hj := (List.getElem?_eq_some_iff.1 hv).1
      simp [List.getElem?_append_left hj, hv]
    · intro j v hv
      rw [cell_of_row _ _ (16 + j) _ _ _ (h0 _ _)]
      simp only [List.getElem?_toArray]
      rw [List.getElem?_append_right (by rw [HL1.out]; omega), HL1.out]
      simpa using hv
  refine wpAnyH_take (i := 0) (oi := ⟨some 4, .slice 23 (.tmp 1) none (some (.const (Go.Value.int Go.IntKind.i64 16))) none, 64, _, #[], none⟩) (v := .slice (some ⟨w.heap.size, 0, none⟩) 16 32) rfl (by kernel_rfl) (by kernel_rfl) (by kernel_rfl) (fun _ _ _ h => h) (Or.inl ⟨by rfl, fun w' hw' => ?_⟩) hHeld ?_
  · first | (go_simp; done) | (go_simp; rfl)
  try simp only [Act.put, qT, q0, qS]
  refine wpAnyH_take (i := 1) (oi := ⟨some 5, .sliceToArrayPointer 86 (.tmp 4), 0, _, #[⟨0, .data⟩], none⟩) (v := .pointer (some ⟨w.heap.size, 0, none⟩)) rfl (by kernel_rfl) (by kernel_rfl) (by kernel_rfl) (fun _ _ _ h => h) (Or.inl ⟨by rfl, fun w' hw' => ?_⟩) hHeld ?_
  · first | (go_simp; done) | (go_simp; rfl)
  try simp only [Act.put, qT, q0, qS]
  refine wpAnyH_take (i := 2) (oi := ⟨some 6, .load 86 (.tmp 5), 86, _, #[⟨1, .data⟩], none⟩) rfl (by kernel_rfl) (by kernel_rfl) (by kernel_rfl) (fun _ _ _ h => h) (yieldsIf_load_mid (by rfl) 86 (.tmp 5) rfl (w.heap.size) (0) rfl (D1) _ (fun _ h => h.1) hu rfl hi1) hHeld ?_
  try simp only [Act.put, qT, q0, qS]
  refine wpAnyH_take (i := 3) (oi := ⟨some 7, .slice 23 (.tmp 1) (some (.const (Go.Value.int Go.IntKind.i64 16))) none none, 64, _, #[], none⟩) (v := .slice (some ⟨w.heap.size, 16, none⟩) 16 16) rfl (by kernel_rfl) (by kernel_rfl) (by kernel_rfl) (fun _ _ _ h => h) (Or.inl ⟨by rfl, fun w' hw' => ?_⟩) hHeld ?_
  · first | (go_simp; done) | (go_simp; rfl)
  try simp only [Act.put, qT, q0, qS]
  refine wpAnyH_take (i := 4) (oi := { dst := some 8, op := .sliceToArrayPointer 86 (.tmp 7), type := 0, pos := _, after := #[⟨3, .data⟩, { on := 6, ground := .gcOnly Go.Departure.lateStores }], guard := none }) (v := .pointer (some ⟨w.heap.size, 16, none⟩)) rfl (by kernel_rfl) (by kernel_rfl) (by kernel_rfl) (fun _ _ _ h => h) (Or.inl ⟨by rfl, fun w' hw' => ?_⟩) hHeld ?_
  · first | (go_simp; done) | (go_simp; rfl)
  try simp only [Act.put, qT, q0, qS]
  refine wpAnyH_take (i := 5) (oi := { dst := some 9, op := .load 86 (.tmp 8), type := 86, pos := _, after := #[⟨4, .data⟩, { on := 6, ground := .gcOnly Go.Departure.lateStores }], guard := none }) rfl (by kernel_rfl) (by kernel_rfl) (by kernel_rfl) (fun _ _ _ h => h) (yieldsIf_load_mid (by rfl) 86 (.tmp 8) rfl (w.heap.size) (16) rfl (D2) _ (fun _ h => h.2.1) hu rfl hi2) hHeld ?_
  try simp only [Act.put, qT, q0, qS]
  refine wpAnyH_ready (rs := [6]) (by kernel_rfl) (by simp) ?_
  refine AllReadyH.cons (o := { dst := none, op := .store 86 (.tmp 2) (.tmp 6), type := 0, pos := _, after := #[⟨2, .data⟩, ⟨0, .phase⟩, ⟨1, .phase⟩, ⟨2, .phase⟩, { on := 3, ground := .textOnly Go.Departure.lateStoresUnsure }, { on := 4, ground := .textOnly Go.Departure.lateStores }, { on := 5, ground := .textOnly Go.Departure.lateStores }], guard := none }) rfl (fun K hK => ?_) AllReadyH.nil
  rw [if_pos (by rfl)]
  obtain ⟨Z, hZ16, hZ⟩ := hHeld.2.2.1
  refine wp_store_row 86 _ _ rfl (w.heap.size + 1) D1.toArray rfl rfl 86 _ hZ hi1 (by rw [hZ16, List.size_toArray, HL1.out]) HA1.out ?_
  have hHeld1 := HS1.set1 hHeld D1.toArray HL1.out
  refine hK.out _ _ hHeld1 (fun _ => ?_)
  clear hK K
  try simp only [Act.put, qT, q0, qS]
  refine wpAnyH_ready (rs := [7]) (by kernel_rfl) (by simp) ?_
  refine AllReadyH.cons (o := ⟨none, .store 86 (.tmp 3) (.tmp 9), 0, _, #[⟨5, .data⟩, ⟨6, .chain⟩, ⟨0, .phase⟩, ⟨1, .phase⟩, ⟨2, .phase⟩, ⟨3, .phase⟩, ⟨4, .phase⟩, ⟨5, .phase⟩, ⟨6, .phase⟩], none⟩) rfl (fun K hK => ?_) AllReadyH.nil
  rw [if_pos (by rfl)]
  obtain ⟨Y, hY16, hY⟩ := hHeld1.2.2.2.1
  refine wp_store_row 86 _ _ rfl (w.heap.size + 2) D2.toArray rfl rfl 86 _ hY hi2 (by rw [hY16, List.size_toArray, HL2.out]) HA2.out ?_
  have hHeld2 := HS1.set2 hHeld1 D2.toArray HL2.out
  refine hK.out _ _ hHeld2 (fun _ => ?_)
  clear hK K
  try simp only [Act.put, qT, q0, qS]
  refine wpAnyH_done (by kernel_rfl) ?_ _
  have HR1 : Hid _ := (setRow_other _ (w.heap.size + 2) (w.heap.size + 1) D2.toArray (by omega)).trans (setRow_heap _ _ _ D1.toArray _ _ hZ)
  have HR2 : Hid _ := setRow_heap _ _ _ D2.toArray _ _ hY
  have HBB : Hid _ := hHeld2.2.2.2.2
  clear hHeld hHeld1 hHeld2 hZ hY
  go_wp2
  refine bodyPost_ret (v := .tuple #[.agg D1.toArray, .agg D2.toArray]) ?_ rfl ⟨rfl, HBB.out⟩
  exact results_two Tryz.results69 _ _ (w.heap.size + 1) (w.heap.size + 2) _ _ _ _ _ _ rfl rfl HR1.out HR2.out hi1 hi2


theorem wpList_copy_segL {ops : Array Oper} {rest : List Oper} {op : Oper} {a : Act} {w : World} {Q : Exit → Act → World → Prop} (hgd : op.guard = none) (d s : Operand) (ho : op.op = .call { callee := .builtin .copy, args := #[d, s], argTypes := #[64, 64] })
    (b o dLen dCap : Nat) (sp : Option Addr) (sLen sCap : Nat) (hd : a.eval d = .slice (some ⟨b, o, none⟩) dLen dCap) (hs : a.eval s = .slice sp sLen sCap) (cur : List Value) (t : TypeId) (hg : w.heap[b]? = some (.cells cur.toArray t (0, 0)))
    (cs : List Value) (hn : cs.length = Nat.min sLen dLen) (hpos : 0 < cs.length → ∃ ad, sp = some ad ∧ ∀ j v, cs[j]? = some v → w.cell? (ad.add j) = some v) (hfit : o + cs.length ≤ cur.length) (h1 : ∀ v ∈ cs, v.oneCell' = true)
    (h : ∀ W', W' = w.setRow b (splice cur o cs).toArray → wpList Tryz.prog ops Q rest (a.put op.dst (goInt cs.length)) W') : wpList Tryz.prog ops Q (op :: rest) a w :=
  wpList_plain hgd fun _ hK => R5.wp_copy_seg d s ho b o dLen dCap sp sLen sCap hd hs cur t hg cs hn hpos hfit h1 (hK _ _ (h _ rfl))
theorem splice_whole (L cs : List Value) (h : cs.length = L.length) : splice L 0 cs = cs := by
  unfold splice
  rw [Nat.zero_add, List.take_zero, List.nil_append, List.drop_of_length_le (by omega), List.append_nil]
def bg (l : List UInt8) : List UInt8 := l.take 32
theorem bg_len {l : List UInt8} (h : l.length = 128) : (bg l).length = 32 := by unfold bg; rw [List.length_take, h]; decide
set_option maxHeartbeats 1000000 in
set_option maxRecDepth 100000 in
theorem beginning_any (v : Value) (l : List UInt8) (w : World) (hv : HB w v l) (hl : l.length = 128) :
    Calls Tryz.prog 53 #[v] w fun e w' => e = .returned (.agg ((bg l).map B8).toArray) ∧ Below w.heap.size w w' := by
  obtain ⟨p, cap, hve, _, hcl⟩ := R5.hb_cells hv
  rw [hl] at hve
  subst hve
  have hz := fun W => R5.zero_dig W
  obtain ⟨ZL, hZL⟩ : ∃ L, L = (List.replicate 32 (0 : UInt8)).map B8 := ⟨_, rfl⟩
  rw [← hZL] at hz
  have HZS : Hid (ZL.length = 32) := by show _ = _; rw [hZL]; simp
  have HSP : Hid (splice ZL 0 ((bg l).map B8) = (bg l).map B8) := splice_whole _ _ (by rw [List.length_map, bg_len hl]; exact HZS.out.symm)
  have HBN : Hid (((bg l).map B8).length = 32) := by show _ = _; rw [List.length_map, bg_len hl]
  have HB1 : Hid _ := B8_onea (bg l)
  have HBO : Hid (∀ u ∈ (bg l).map B8, u.oneCell' = true) := fun u hu => by
    obtain ⟨x, _, rfl⟩ := List.mem_map.1 hu
    rfl
  have HCL : Hid (∃ ad, p = some ad ∧ ∀ X, Below w.heap.size w X → ∀ (j : Nat) u, ((bg l).map B8)[j]? = some u → X.cell? (ad.add j) = some u) := by
    rcases p with _ | ad
    · rcases hv with ⟨h, _⟩ | ⟨b, o, c, h, _⟩
      · rw [h] at hl; simp at hl
      · simp at h
    · refine ⟨ad, rfl, fun X hX j u hu => ?_⟩
      have h1 : (l.map B8)[j]? = some u := by
        unfold bg at hu
        rw [List.map_take] at hu
        have hj : j < 32 := by have := (List.getElem?_eq_some_iff.1 hu).1; rw [List.length_take] at this; omega
        rwa [List.getElem?_take_of_lt hj] at hu
      have h2 := hcl ad rfl j u h1
      exact (hX.cell (block_lt h2)).trans h2
  have hsl := fun W => R5.sliceDig W (w.heap.size + 1) 0
  have HT0 : Hid _ := ((RS.start w).alloc w.heap.size rfl 23 ZL).alloc (w.heap.size + 1) (by simp) 23 ZL
  clear hZL hv hl hcl
  generalize (bg l).map B8 = BL at *
  go_enter Tryz.func53, Tryz.ntmps53
  go_upto_region 2 with fail
  generalize World.alloc _ _ = X0 at *
  obtain ⟨ad, hpa, hcx⟩ := HCL.out
  have HCX : Hid (∀ (j : Nat) u, BL[j]? = some u → X0.cell? (ad.add j) = some u) := hcx X0 HT0.out.bel
  clear hcx HCL
  go_wp2_with (first
    | (refine wpList_copy_segL rfl (.tmp 4) (.tmp 5) rfl (w.heap.size + 1) 0 32 32 p 128 cap rfl rfl ZL 23 (HT0.out.at 0 rfl) BL (by rw [HBN.out]; rfl) (fun _ => ⟨ad, hpa, HCX.out⟩) (by rw [HBN.out, HZS.out]; decide) HBO.out ?_; intro X1 e1; rw [HSP.out] at e1; have HT1 : Hid _ := HT0.out.put 0 rfl BL; rw [← e1] at HT1; clear e1)
    | (refine wpList_load_mid rfl 23 (.tmp 3) rfl (w.heap.size + 1) 0 rfl BL _ (rangeAt_row (HT1.out.at 0 rfl)) Tryz.underlying23 rfl (R5.info32 BL HBN.out) ?_)
    | (refine R5.wpList_store_rowL rfl 23 (.tmp 2) (.tmp 7) rfl w.heap.size BL.toArray rfl rfl 23 ZL.toArray (HT1.out.at 1 rfl) (R5.info32a _ (by simp [HBN.out])) (by simp [HBN.out, HZS.out]) HB1.out ?_; intro X2 e2; have HT2 : Hid _ := HT1.out.put 1 rfl BL; rw [← e2] at HT2; clear e2))
  refine bodyPost_ret (v := .agg BL.toArray) ?_ rfl ⟨rfl, HT2.out.bel⟩
  exact results_cell_row Tryz.results53 _ _ w.heap.size 23 _ (0, 0) _ rfl (HT2.out.at 1 rfl) Tryz.underlying23 rfl (R5.info32a _ (by simp [HBN.out]))
set_option maxHeartbeats 1000000 in
set_option maxRecDepth 100000 in
theorem strm1_any (qb : Nat) (v : Value) (l : List UInt8) (w : World) (hc : w.cell? ⟨qb, 0, none⟩ = some v) (hv : HB w v l) (hl : l.length = 128) :
    Calls Tryz.prog 52 #[.pointer (some ⟨qb, 0, none⟩)] w fun e w' => e = .returned (.agg ((bg l).map B8).toArray) ∧ Below w.heap.size w w' := by
  have hz := fun W => R5.zero_dig W
  obtain ⟨ZL, hZL⟩ : ∃ L, L = (List.replicate 32 (0 : UInt8)).map B8 := ⟨_, rfl⟩
  rw [← hZL] at hz
  have HZS : Hid (ZL.length = 32) := by show _ = _; rw [hZL]; simp
  have HBN : Hid (((bg l).map B8).length = 32) := by show _ = _; rw [List.length_map, bg_len hl]
  have HB1 : Hid _ := B8_onea (bg l)
  have HBG : Hid (∀ W, Below w.heap.size w W → Calls Tryz.prog 53 #[v] W fun e w' => e = .returned (.agg ((bg l).map B8).toArray) ∧ Below W.heap.size W w') := fun W hW => beginning_any v l W (hv.below hW) hl
  have HT0 : Hid _ := (RS.start w).alloc w.heap.size rfl 23 ZL
  have hcx : ∀ X, Below w.heap.size w X → X.cell? ⟨qb, 0, none⟩ = some v := fun X hX => (hX.cell (block_lt hc)).trans hc
  clear hZL hv hl hc
  generalize (bg l).map B8 = BL at *
  go_enter Tryz.func52, Tryz.ntmps52
  go_upto_region 1 with fail
  generalize World.alloc _ _ = X0 at *
  have hc0 := hcx X0 HT0.out.bel
  clear hcx
  go_wp2_with fail
  refine Calls.mono (HBG.out X0 HT0.out.bel) ?_
  rintro e X1 ⟨rfl, hb⟩
  have HT1 : Hid _ := HT0.out.step hb
  clear hb HT0 HBG hc0
  go_wp2_with (refine R5.wpList_store_rowL rfl 23 _ _ rfl w.heap.size BL.toArray rfl rfl 23 ZL.toArray (HT1.out.at 0 rfl) (R5.info32a _ (by simp [HBN.out])) (by simp [HBN.out, HZS.out]) HB1.out ?_; intro X2 e2; have HT2 : Hid _ := HT1.out.put 0 rfl BL; rw [← e2] at HT2; clear e2)
  refine bodyPost_ret (v := .agg BL.toArray) ?_ rfl ⟨rfl, HT2.out.bel⟩
  exact results_cell_row Tryz.results52 _ _ w.heap.size 23 _ (0, 0) _ rfl (HT2.out.at 0 rfl) Tryz.underlying23 rfl (R5.info32a _ (by simp [HBN.out]))
def cst (q : R5.Qn) : List UInt8 := AE.skA (q.key.take 16) ((shaL (R5.textQ q)).take 8) 128
theorem cst_len {q : R5.Qn} (hk : q.key.length = 32) : (cst q).length = 128 := AE.skA_len _ _ 128 (by rw [List.length_take, hk]; decide) (by rw [List.length_take, shaL_len]; decide)
theorem zero_16 (w : World) : (zeroValue 86).run Tryz.prog w = .ok (.agg ((List.replicate 16 (0 : UInt8)).map B8).toArray) w := by kernel_rfl
theorem info16 (RS : List Value) (h : RS.length = 16) : (Tryz.prog.info? 86).map (·.size) = some RS.length := by rw [h]; kernel_rfl
theorem info16a (RS : List Value) (h : RS.length = 16) : (Tryz.prog.info? 86).map (·.size) = some RS.toArray.size := by rw [List.size_toArray, h]; kernel_rfl
theorem info8 (RS : List Value) (h : RS.length = 8) : (Tryz.prog.info? 87).map (·.size) = some RS.length := by rw [h]; kernel_rfl
set_option maxHeartbeats 4000000 in
set_option maxRecDepth 100000 in
theorem cstream_any (dq : Value) (q : R5.Qn) (w : World) (hk : q.key.length = 32) (hql : q.data.length ≤ 1000000) (hd : HB w dq q.data) :
    Calls Tryz.prog 50 #[.agg (R5.qL q dq).toArray, .int .i64 128] w fun e w' => ∃ v, e = .returned v ∧ FB w.heap.size w' v (cst q) ∧ Below w.heap.size w w' := by
  have hz := fun W => R5.zero_dig W
  have hz16 := fun W => zero_16 W
  obtain ⟨ZL, hZL⟩ : ∃ L, L = (List.replicate 32 (0 : UInt8)).map B8 := ⟨_, rfl⟩
  obtain ⟨ZH, hZH⟩ : ∃ L, L = (List.replicate 16 (0 : UInt8)).map B8 := ⟨_, rfl⟩
  rw [← hZL] at hz
  rw [← hZH] at hz16
  have HZS : Hid (ZL.length = 32) := by show _ = _; rw [hZL]; simp
  have HZH : Hid (ZH.length = 16) := by show _ = _; rw [hZH]; simp
  have HQN : Hid ((R5.qL q dq).length = 35) := R5.qL_len q dq hk
  have HHF : Hid (∀ W, Calls Tryz.prog 69 #[.agg (q.key.map B8).toArray] W fun e w' => e = .returned (.tuple #[.agg ((q.key.take 16).map B8).toArray, .agg ((q.key.drop 16).map B8).toArray]) ∧ Below W.heap.size W w') := fun W => half_any q.key W hk
  have HTX : Hid (∀ W, Below w.heap.size w W → Calls Tryz.prog 71 #[.agg (R5.qL q dq).toArray] W fun e w' => ∃ u, e = .returned u ∧ FB W.heap.size w' u (R5.textQ q) ∧ Below W.heap.size W w') := fun W hW => R5.ptext_any _ q W (by omega) ⟨hk, dq, rfl, hd.below hW⟩
  have HTL : Hid ((R5.textQ q).length ≤ 4294967296) := by show _ ≤ _; have := R5.textQ_len q hk; omega
  have HSH : Hid (∀ u W, HB W u (R5.textQ q) → Calls Tryz.prog 70 #[u] W fun e w' => e = .returned (.agg ((shaL (R5.textQ q)).map B8).toArray) ∧ Below W.heap.size W w') := fun u W hu => shaSum_any u _ W HTL.out hu
  have HAE : Hid (∀ W, Calls Tryz.prog 72 #[.agg ((q.key.take 16).map B8).toArray, .agg (((shaL (R5.textQ q)).take 8).map B8).toArray, .int .i64 128] W fun e w' => ∃ v, e = .returned (.tuple #[v, .int .i64 0]) ∧ FB W.heap.size w' v (cst q) ∧ Below W.heap.size W w') := fun W => AE.pstream_any _ _ 128 W (by rw [List.length_take, hk]; decide) (by rw [List.length_take, shaL_len]; decide) (by decide)
  have HK1 : Hid (((q.key.take 16).map B8).length = 16) := by show _ = _; rw [List.length_map, List.length_take, hk]; decide
  have HK2 : Hid (((q.key.drop 16).map B8).length = 16) := by show _ = _; rw [List.length_map, List.length_drop, hk]
  have HO1 : Hid _ := B8_onea (q.key.take 16)
  have HO2 : Hid _ := B8_onea (q.key.drop 16)
  have HSN : Hid (((shaL (R5.textQ q)).map B8).length = 32) := by show _ = _; rw [List.length_map, shaL_len]
  have HSO : Hid _ := B8_onea (shaL (R5.textQ q))
  have HN8 : Hid ((((shaL (R5.textQ q)).map B8).take 8) = ((shaL (R5.textQ q)).take 8).map B8) := (List.map_take ..).symm
  have HN9 : Hid (((((shaL (R5.textQ q)).take 8)).map B8).length = 8) := by show _ = _; rw [List.length_map, List.length_take, shaL_len]; decide
  have HT0 : Hid _ := (RS.start w).alloc w.heap.size rfl 66 (R5.qL q dq)
  have HRK : Hid (∀ X, RS w [(w.heap.size, 66, R5.qL q dq)] X → X.rangeAt w.heap.size 1 (q.key.map B8)) := fun X hX => (R5.q_facts hk (hX.at 0 rfl)).2.1
  have HKN : Hid ((q.key.map B8).length = 32) := by show _ = _; simpa using hk
  clear hZL hZH hd hk hql HTL
  generalize R5.qL q dq = QL at *
  generalize q.key.map B8 = KL at *
  generalize (q.key.take 16).map B8 = K1 at *
  generalize (q.key.drop 16).map B8 = K2 at *
  generalize ((shaL (R5.textQ q)).take 8).map B8 = N8 at *
  generalize (shaL (R5.textQ q)).map B8 = SL at *
  go_enter Tryz.func50, Tryz.ntmps50
  go_upto_region 1 with fail
  generalize World.alloc _ _ = X0 at *
  go_wp2_with (refine wpList_load_mid rfl 23 (.tmp 11) rfl w.heap.size 1 rfl KL _ (HRK.out X0 HT0.out) Tryz.underlying23 rfl (R5.info32 KL HKN.out) ?_)
  refine Calls.mono (HHF.out X0) ?_
  rintro e X1 ⟨rfl, hb⟩
  have HT1 : Hid _ := ((HT0.out.step hb).alloc X1.heap.size rfl 86 ZH).alloc (X1.heap.size + 1) (by simp) 86 ZH
  clear hb HT0 HHF HRK
  go_upto_region 2 with (first
    | (refine R5.wpList_store_rowL rfl 86 (.tmp 5) (.tmp 14) rfl X1.heap.size K1.toArray rfl rfl 86 ZH.toArray (HT1.out.at 1 rfl) (info16a K1 HK1.out) (by simp [HK1.out, HZH.out]) HO1.out ?_; intro X2 e2; have HT2 : Hid _ := HT1.out.put 1 rfl K1; rw [← e2] at HT2; clear e2)
    | (refine R5.wpList_store_rowL rfl 86 (.tmp 6) (.tmp 15) rfl (X1.heap.size + 1) K2.toArray rfl rfl 86 ZH.toArray (HT2.out.at 0 rfl) (info16a K2 HK2.out) (by simp [HK2.out, HZH.out]) HO2.out ?_; intro X3 e3; have HT3 : Hid _ := HT2.out.put 0 rfl K2; rw [← e3] at HT3; clear e3))
  have HT4 : Hid (RS w [(X1.heap.size, 86, K1), (w.heap.size, 66, QL)] X3) := RS.tail HT3.out
  clear HT1 HT2 HT3
  generalize X1.heap.size = g5 at *
  generalize g5 + 1 = g6 at *
  go_wp2_with (refine wpList_load_mid rfl 66 (.tmp 2) rfl w.heap.size 0 rfl QL _ (rangeAt_row (HT4.out.at 1 rfl)) Tryz.underlying66 rfl (R5.info35 QL HQN.out) ?_)
  refine Calls.mono (HTX.out X3 HT4.out.bel) ?_
  rintro e X5 ⟨u, rfl, hf5, hb⟩
  have HT5 : Hid _ := HT4.out.step hb
  have HU5 : Hid (HB X5 u (R5.textQ q)) := hf5.hb
  clear hb hf5 HT4 HTX
  go_wp2_with fail
  refine Calls.mono (HSH.out u X5 HU5.out) ?_
  rintro e X6 ⟨rfl, hb⟩
  have HT6 : Hid _ := (HT5.out.step hb).alloc X6.heap.size rfl 23 ZL
  clear hb HT5 HU5 HSH
  go_upto_region 3 with (refine R5.wpList_store_rowL rfl 23 _ _ rfl X6.heap.size SL.toArray rfl rfl 23 ZL.toArray (HT6.out.at 0 rfl) (R5.info32a _ (by simp [HSN.out])) (by simp [HSN.out, HZS.out]) HSO.out ?_; intro X7 e7; have HT7 : Hid _ := HT6.out.put 0 rfl SL; rw [← e7] at HT7; clear e7)
  clear HT6
  generalize X6.heap.size = g7 at *
  have hsl := fun W => R5.PS.sliceTo W g7 8 (by decide)
  refine wp_region_held_drew (S := fun X => RS w [(g7, 23, SL), (g5, 86, K1), (w.heap.size, 66, QL)] X) (by kernel_rfl) (HT7.out.step (Below.refl _ _).drew) (fun hHeld => ?_)
  clear HT7
  generalize World.drew _ = Y0 at *
  have HRN : Hid (∀ X, RS w [(g7, 23, SL), (g5, 86, K1), (w.heap.size, 66, QL)] X → X.rangeAt g7 0 N8) := fun X hX => by
    have q := rangeAt_row (hX.at 0 rfl)
    rw [← HN8.out]
    exact fun j v hv => q j v (by
      have hj : j < 8 := by have := (List.getElem?_eq_some_iff.1 hv).1; rw [List.length_take] at this; omega
      rwa [List.getElem?_take_of_lt hj] at hv)
  refine wpAnyH_take (i := 0) (oi := ⟨some 20, .load 86 (.tmp 5), 86, _, #[], none⟩) rfl (by kernel_rfl) (by kernel_rfl) (by kernel_rfl) (fun _ _ _ h => h) (yieldsIf_load_mid (by rfl) 86 (.tmp 5) rfl (g5) (0) rfl (K1) _ (fun _ h => rangeAt_row (h.at 1 rfl)) Tryz.underlying86 rfl (info16 K1 HK1.out)) hHeld ?_
  try simp only [Act.put, qT, q0, qS]
  refine wpAnyH_take (i := 1) (oi := ⟨some 21, .slice 23 (.tmp 7) none (some (.const (Go.Value.int Go.IntKind.i64 8))) none, 64, _, #[], none⟩) (v := .slice (some ⟨g7, 0, none⟩) 8 32) rfl (by kernel_rfl) (by kernel_rfl) (by kernel_rfl) (fun _ _ _ h => h) (Or.inl ⟨by rfl, fun w' hw' => ?_⟩) hHeld ?_
  · first | (go_simp; done) | (go_simp; rfl)
  try simp only [Act.put, qT, q0, qS]
  refine wpAnyH_take (i := 2) (oi := ⟨some 22, .sliceToArrayPointer 87 (.tmp 21), 0, _, #[⟨1, .data⟩], none⟩) (v := .pointer (some ⟨g7, 0, none⟩)) rfl (by kernel_rfl) (by kernel_rfl) (by kernel_rfl) (fun _ _ _ h => h) (Or.inl ⟨by rfl, fun w' hw' => ?_⟩) hHeld ?_
  · first | (go_simp; done) | (go_simp; rfl)
  try simp only [Act.put, qT, q0, qS]
  refine wpAnyH_take (i := 3) (oi := ⟨some 23, .load 87 (.tmp 22), 87, _, #[⟨2, .data⟩], none⟩) rfl (by kernel_rfl) (by kernel_rfl) (by kernel_rfl) (fun _ _ _ h => h) (yieldsIf_load_mid (by rfl) 87 (.tmp 22) rfl (g7) (0) rfl (N8) _ (fun _ h => HRN.out _ h) Tryz.underlying87 rfl (info8 N8 HN9.out)) hHeld ?_
  try simp only [Act.put, qT, q0, qS]
  refine wpAnyH_take (i := 4) (oi := ⟨some 24, .move (.tmp 1), 3, _, #[], none⟩) (v := .int .i64 128) rfl (by kernel_rfl) (by kernel_rfl) (by kernel_rfl) (fun _ _ _ h => h) (Or.inl ⟨by rfl, fun w' hw' => ?_⟩) hHeld ?_
  · first | (go_simp; done) | (go_simp; rfl)
  try simp only [Act.put, qT, q0, qS]
  refine wpAnyH_ready (rs := [5]) (by kernel_rfl) (by simp) ?_
  refine AllReadyH.cons (o := { dst := some 25, op := .call { callee := Go.Callee.value (.func 72), args := #[.tmp 20, .tmp 23, .tmp 24], argTypes := #[86, 87, 3] }, type := 79, pos := _, after := #[⟨0, .data⟩, ⟨3, .data⟩, ⟨4, .data⟩], guard := none }) rfl (fun K hK => ?_) AllReadyH.nil
  rw [if_pos (by rfl)]
  go_wp2_with fail
  refine Calls.mono (HAE.out Y0) ?_
  rintro e Y1 ⟨v, rfl, hf, hb⟩
  have hH1 := hHeld.step hb
  have HFB : Hid (FB w.heap.size Y1 v (cst q)) := R5.own_lower hf hHeld.bel.size
  have HEND : Hid (Below w.heap.size w Y1) := hH1.bel
  clear hf hb
  refine hK.out _ _ hH1 (fun _ => ?_)
  clear hK K
  try simp only [Act.put, qT, q0, qS]
  clear hHeld
  have hHeld := hH1
  clear hH1
  refine wpAnyH_take (i := 6) (oi := ⟨some 19, .move (.tmp 25), 79, _, #[⟨5, .data⟩], none⟩) (v := .tuple #[v, .int .i64 0]) rfl (by kernel_rfl) (by kernel_rfl) (by kernel_rfl) (fun _ _ _ h => h) (Or.inl ⟨by rfl, fun w' hw' => ?_⟩) hHeld ?_
  · first | (go_simp; done) | (go_simp; rfl)
  try simp only [Act.put, qT, q0, qS]
  refine wpAnyH_take (i := 7) (oi := ⟨some 26, .extract (.tmp 19) 0, 64, _, #[⟨6, .data⟩], none⟩) (v := v) rfl (by kernel_rfl) (by kernel_rfl) (by kernel_rfl) (fun _ _ _ h => h) (Or.inl ⟨by rfl, fun w' hw' => ?_⟩) hHeld ?_
  · first | (go_simp; done) | (go_simp; rfl)
  try simp only [Act.put, qT, q0, qS]
  refine wpAnyH_take (i := 8) (oi := { dst := some 27, op := .extract (.tmp 19) 1, type := 35, pos := _, after := #[⟨6, .data⟩, { on := 9, ground := .gcOnly Go.Departure.lateStores }], guard := none }) (v := .int .i64 0) rfl (by kernel_rfl) (by kernel_rfl) (by kernel_rfl) (fun _ _ _ h => h) (Or.inl ⟨by rfl, fun w' hw' => ?_⟩) hHeld ?_
  · first | (go_simp; done) | (go_simp; rfl)
  try simp only [Act.put, qT, q0, qS]
  refine wpAnyH_take (i := 9) (oi := { dst := some 8, op := .assign (.tmp 26), type := 64, pos := _, after := #[⟨7, .data⟩, ⟨5, .chain⟩, ⟨0, .phase⟩, ⟨1, .phase⟩, ⟨2, .phase⟩, ⟨3, .phase⟩, ⟨4, .phase⟩, ⟨5, .phase⟩, ⟨6, .phase⟩, ⟨7, .phase⟩, { on := 8, ground := .textOnly Go.Departure.lateStores }], guard := none }) (v := v) rfl (by kernel_rfl) (by kernel_rfl) (by kernel_rfl) (fun _ _ _ h => h) (Or.inl ⟨by rfl, fun w' hw' => ?_⟩) hHeld ?_
  · first | (go_simp; done) | (go_simp; rfl)
  try simp only [Act.put, qT, q0, qS]
  refine wpAnyH_take (i := 10) (oi := ⟨some 9, .assign (.tmp 27), 35, _, #[⟨8, .data⟩, ⟨9, .chain⟩, ⟨0, .phase⟩, ⟨1, .phase⟩, ⟨2, .phase⟩, ⟨3, .phase⟩, ⟨4, .phase⟩, ⟨5, .phase⟩, ⟨6, .phase⟩, ⟨7, .phase⟩, ⟨8, .phase⟩, ⟨9, .phase⟩], none⟩) (v := .int .i64 0) rfl (by kernel_rfl) (by kernel_rfl) (by kernel_rfl) (fun _ _ _ h => h) (Or.inl ⟨by rfl, fun w' hw' => ?_⟩) hHeld ?_
  · first | (go_simp; done) | (go_simp; rfl)
  try simp only [Act.put, qT, q0, qS]
  refine wpAnyH_done (by kernel_rfl) ?_ _
  clear hHeld
  go_wp2
  go_ret
  exact ⟨v, rfl, HFB.out, HEND.out⟩
end Go.Proofs.YtbmmibmfjhehhaaGreat.BC
