/- Contracts of both Halfs. -/
import Derived.Test.YtojafgilpnnbiabE5
set_option linter.unusedVariables false
set_option linter.unusedSimpArgs false
namespace Go.Proofs.Ytojafgilpnnbiab
open Go.RowKit

theorem results_two {fn : Func} {p u : Tmp} (h : fn.results = #[.cell p 28, .cell u 28]) (tmps : Array Value) (w : World) (g k : Nat) (t t' : TypeId) (cs ks : Array Value) (fr fr' : Nat × Nat)
    (hp : tmps.getD p undef = .pointer (some ⟨g, 0, none⟩)) (hx : tmps.getD u undef = .pointer (some ⟨k, 0, none⟩)) (hg : w.heap[g]? = some (.cells cs t fr)) (hk : w.heap[k]? = some (.cells ks t' fr'))
    (hi : (Try.prog.info? 28).map (·.size) = some cs.size) (hi' : (Try.prog.info? 28).map (·.size) = some ks.size) :
    (results fn tmps).run Try.prog w = .ok (.tuple #[.agg cs, .agg ks]) w := by
  have hp' : tmps[p]?.getD undef = .pointer (some ⟨g, 0, none⟩) := by simpa using hp
  have hx' : tmps[u]?.getD undef = .pointer (some ⟨k, 0, none⟩) := by simpa using hx
  simp [results, h, hp', hx', asAddr, run_loadVar_row w g t 28 cs fr _ hg Try.underlying28 rfl hi, run_loadVar_row w k t' 28 ks fr' _ hk Try.underlying28 rfl hi']

theorem half_1 (w : World) (b : Nat) : (Instr.sliceAt 24 (.pointer (some ⟨b, 0, none⟩)) none (some (.int .i64 16)) none).run Try.prog w = .ok (.slice (some ⟨b, 0, none⟩) 16 32) w := by
  have ha : Try.prog.arrayLen 24 = 32 := by kernel_rfl
  have hu : Try.prog.underlying 24 = some (.array (Try.prog.arrayLen 24) (Try.prog.elem 24)) := by kernel_rfl
  have he : Try.prog.elem 24 = 5 := by kernel_rfl
  rw [run_sliceAt_array_h w 24 _ hu .i64 _ (by decide) (by rw [ha]; decide), he, size_u8, ha]
  have hadd : (⟨b, 0, none⟩ : Addr).add (0 * 1) = ⟨b, 0, none⟩ := by unfold Addr.add; split <;> simp_all
  simp only [Result.andThen, slicedAt]
  rw [if_neg (by decide), hadd]
  rfl
theorem half_2 (w : World) (b : Nat) : (Instr.sliceAt 24 (.pointer (some ⟨b, 0, none⟩)) (some (.int .i64 16)) none none).run Try.prog w = .ok (.slice (some ⟨b, 16, none⟩) 16 16) w := by
  have ha : Try.prog.arrayLen 24 = 32 := by kernel_rfl
  have hu : Try.prog.underlying 24 = some (.array (Try.prog.arrayLen 24) (Try.prog.elem 24)) := by kernel_rfl
  have he : Try.prog.elem 24 = 5 := by kernel_rfl
  rw [run_sliceAt_array_l w 24 _ hu .i64 _ (by decide) (by rw [ha]; decide), he, size_u8, ha]
  have hadd : (⟨b, 0, none⟩ : Addr).add (16 * 1) = ⟨b, 16, none⟩ := by unfold Addr.add; split <;> simp_all
  simp only [Result.andThen, slicedAt]
  rw [if_neg (by decide)]
  show Result.ok (Value.slice (some ((⟨b, 0, none⟩ : Addr).add (16 * 1))) _ _) w = _
  rw [hadd]
  rfl

/-- What stays while Half runs. -/
def HS1 (w : World) (D1 D2 : List Value) (w' : World) : Prop :=
  w'.rangeAt w.heap.size 0 D1 ∧ w'.rangeAt w.heap.size 16 D2 ∧ (∃ Z : Array Value, Z.size = 16 ∧ w'.heap[w.heap.size + 1]? = some (.cells Z 28 (0, 0))) ∧ (∃ Z : Array Value, Z.size = 16 ∧ w'.heap[w.heap.size + 2]? = some (.cells Z 28 (0, 0))) ∧ Below w.heap.size w w'
theorem HS1.set1 {w a : World} {D1 D2 : List Value} (h : HS1 w D1 D2 a) (N : Array Value) (hn : N.size = 16) : HS1 w D1 D2 (a.setRow (w.heap.size + 1) N) := by
  obtain ⟨h1, h2, ⟨Z, z1, z2⟩, ⟨Y, y1, y2⟩, h3⟩ := h
  exact ⟨rangeAt_setRow h1 (by omega), rangeAt_setRow h2 (by omega), ⟨N, hn, setRow_heap _ _ _ _ _ _ z2⟩, ⟨Y, y1, (setRow_other _ _ _ _ (by omega)).trans y2⟩, below_setRow h3 (by omega) _⟩
theorem HS1.set2 {w a : World} {D1 D2 : List Value} (h : HS1 w D1 D2 a) (N : Array Value) (hn : N.size = 16) : HS1 w D1 D2 (a.setRow (w.heap.size + 2) N) := by
  obtain ⟨h1, h2, ⟨Z, z1, z2⟩, ⟨Y, y1, y2⟩, h3⟩ := h
  exact ⟨rangeAt_setRow h1 (by omega), rangeAt_setRow h2 (by omega), ⟨Z, z1, (setRow_other _ _ _ _ (by omega)).trans z2⟩, ⟨N, hn, setRow_heap _ _ _ _ _ _ y2⟩, below_setRow h3 (by omega) _⟩

set_option maxHeartbeats 4000000 in
set_option maxRecDepth 100000 in
theorem half_any (d : List UInt8) (w : World) (hd : d.length = 32) :
    Calls Try.prog 12 #[.agg (d.map B8).toArray] w fun e w' => e = .returned (.tuple #[.agg ((d.take 16).map B8).toArray, .agg ((d.drop 16).map B8).toArray]) ∧ Below w.heap.size w w' := by
  obtain ⟨D1, hD1⟩ : ∃ D1, D1 = (d.take 16).map B8 := ⟨_, rfl⟩
  obtain ⟨D2, hD2⟩ : ∃ D2, D2 = (d.drop 16).map B8 := ⟨_, rfl⟩
  have hl1 : D1.length = 16 := by rw [hD1]; simp [hd]
  have hl2 : D2.length = 16 := by rw [hD2]; simp [hd]
  obtain ⟨DA, hDA⟩ : ∃ DA, DA = (d.map B8).toArray := ⟨_, rfl⟩
  have hcat : DA = (D1 ++ D2).toArray := by rw [hDA, hD1, hD2, ← List.map_append, List.take_append_drop]
  have hi1 : (Try.prog.info? 28).map (·.size) = some D1.length := by rw [hl1]; kernel_rfl
  have hi2 : (Try.prog.info? 28).map (·.size) = some D2.length := by rw [hl2]; kernel_rfl
  have HA1 : Hid (D1.toArray.all (·.oneCell') = true) := by show _ = _; rw [hD1]; exact B8_onea _
  have HA2 : Hid (D2.toArray.all (·.oneCell') = true) := by show _ = _; rw [hD2]; exact B8_onea _
  rw [← hDA, ← hD1, ← hD2]
  have hu := Try.underlying28
  have hs1 := fun W => half_1 W w.heap.size
  have hs2 := fun W => half_2 W w.heap.size
  have ha1 := fun W => run_arrayAt (P := Try.prog) W 28 5 16 (some ⟨w.heap.size, 0, none⟩) 16 32 Try.underlying28 (by omega)
  have ha2 := fun W => run_arrayAt (P := Try.prog) W 28 5 16 (some ⟨w.heap.size, 16, none⟩) 16 16 Try.underlying28 (by omega)
  have HL1 : Hid _ := hl1
  have HL2 : Hid _ := hl2
  have HC : Hid _ := hcat
  clear hD1 hD2 hDA hd hcat hl1 hl2
  go_enter Try.func12, Try.ntmps12
  go_wp2
  refine wp_region_held_drew (S := HS1 w D1 D2) (by kernel_rfl) ?_ (fun hHeld => ?_)
  · have h0 : ∀ b c : Obj, (((w.alloc (.cells DA 24)).alloc b).alloc c).drew.heap[w.heap.size]? = some (.cells (D1 ++ D2).toArray 24 (0, 0)) := fun b c => by rw [h3a, HC.out]
    refine ⟨?_, ?_, ⟨_, rfl, h3b _ _ _ _⟩, ⟨_, rfl, h3c _ _ _ _⟩, ((((Below.refl _ _).alloc (Nat.le_refl _) _).alloc (by simp) _).alloc (by simp; omega) _).drew⟩
    · intro j v hv
      rw [Nat.zero_add, cell_of_row _ _ j _ _ _ (h0 _ _)]
      have hj := (List.getElem?_eq_some_iff.1 hv).1
      simp [List.getElem?_append_left hj, hv]
    · intro j v hv
      rw [cell_of_row _ _ (16 + j) _ _ _ (h0 _ _)]
      simp only [List.getElem?_toArray]
      rw [List.getElem?_append_right (by rw [HL1.out]; omega), HL1.out]
      simpa using hv
  refine wpAnyH_take (i := 0) (oi := { dst := some 4, op := Go.Op.slice 24 (Go.Operand.tmp 1) none (some (Go.Operand.const (Go.Value.int Go.IntKind.i64 16))) none, type := 22, pos := _, after := #[], guard := none }) (v := .slice (some ⟨w.heap.size, 0, none⟩) 16 32) rfl (by kernel_rfl) (by kernel_rfl) (by kernel_rfl) (fun _ _ _ h => h) (Or.inl ⟨by rfl, fun w' hw' => ?_⟩) hHeld ?_
  · first | (go_simp; done) | (go_simp; rfl)
  try simp only [Act.put, List.setIfInBounds_toArray, List.set_cons_zero, List.set_cons_succ]
  refine wpAnyH_take (i := 1) (oi := { dst := some 5, op := Go.Op.sliceToArrayPointer 28 (Go.Operand.tmp 4), type := 0, pos := _, after := #[{ on := 0, ground := Go.Ground.data }], guard := none }) (v := .pointer (some ⟨w.heap.size, 0, none⟩)) rfl (by kernel_rfl) (by kernel_rfl) (by kernel_rfl) (fun _ _ _ h => h) (Or.inl ⟨by rfl, fun w' hw' => ?_⟩) hHeld ?_
  · first | (go_simp; done) | (go_simp; rfl)
  try simp only [Act.put, List.setIfInBounds_toArray, List.set_cons_zero, List.set_cons_succ]
  refine wpAnyH_take (i := 2) (oi := { dst := some 6, op := Go.Op.load 28 (Go.Operand.tmp 5), type := 28, pos := _, after := #[{ on := 1, ground := Go.Ground.data }], guard := none }) rfl (by kernel_rfl) (by kernel_rfl) (by kernel_rfl) (fun _ _ _ h => h) (yieldsIf_load_mid (by rfl) 28 (.tmp 5) rfl (w.heap.size) (0) rfl (D1) _ (fun _ h => h.1) hu rfl hi1) hHeld ?_
  try simp only [Act.put, List.setIfInBounds_toArray, List.set_cons_zero, List.set_cons_succ]
  refine wpAnyH_take (i := 3) (oi := { dst := some 7, op := Go.Op.slice 24 (Go.Operand.tmp 1) (some (Go.Operand.const (Go.Value.int Go.IntKind.i64 16))) none none, type := 22, pos := _, after := #[], guard := none }) (v := .slice (some ⟨w.heap.size, 16, none⟩) 16 16) rfl (by kernel_rfl) (by kernel_rfl) (by kernel_rfl) (fun _ _ _ h => h) (Or.inl ⟨by rfl, fun w' hw' => ?_⟩) hHeld ?_
  · first | (go_simp; done) | (go_simp; rfl)
  try simp only [Act.put, List.setIfInBounds_toArray, List.set_cons_zero, List.set_cons_succ]
  refine wpAnyH_take (i := 4) (oi := { dst := some 8, op := Go.Op.sliceToArrayPointer 28 (Go.Operand.tmp 7), type := 0, pos := _, after := #[{ on := 3, ground := Go.Ground.data }, { on := 6, ground := Go.Ground.gcOnly Go.Departure.lateStores }], guard := none }) (v := .pointer (some ⟨w.heap.size, 16, none⟩)) rfl (by kernel_rfl) (by kernel_rfl) (by kernel_rfl) (fun _ _ _ h => h) (Or.inl ⟨by rfl, fun w' hw' => ?_⟩) hHeld ?_
  · first | (go_simp; done) | (go_simp; rfl)
  try simp only [Act.put, List.setIfInBounds_toArray, List.set_cons_zero, List.set_cons_succ]
  refine wpAnyH_take (i := 5) (oi := { dst := some 9, op := Go.Op.load 28 (Go.Operand.tmp 8), type := 28, pos := _, after := #[{ on := 4, ground := Go.Ground.data }, { on := 6, ground := Go.Ground.gcOnly Go.Departure.lateStores }], guard := none }) rfl (by kernel_rfl) (by kernel_rfl) (by kernel_rfl) (fun _ _ _ h => h) (yieldsIf_load_mid (by rfl) 28 (.tmp 8) rfl (w.heap.size) (16) rfl (D2) _ (fun _ h => h.2.1) hu rfl hi2) hHeld ?_
  try simp only [Act.put, List.setIfInBounds_toArray, List.set_cons_zero, List.set_cons_succ]
  refine wpAnyH_ready (rs := [6]) (by kernel_rfl) (by simp) ?_
  refine AllReadyH.cons (o := { dst := none, op := Go.Op.store 28 (Go.Operand.tmp 2) (Go.Operand.tmp 6), type := 0, pos := _, after := #[{ on := 2, ground := Go.Ground.data }, { on := 0, ground := Go.Ground.phase }, { on := 1, ground := Go.Ground.phase }, { on := 2, ground := Go.Ground.phase }, { on := 3, ground := Go.Ground.textOnly Go.Departure.lateStoresUnsure }, { on := 4, ground := Go.Ground.textOnly Go.Departure.lateStores }, { on := 5, ground := Go.Ground.textOnly Go.Departure.lateStores }], guard := none }) rfl (fun K hK => ?_) AllReadyH.nil
  rw [if_pos (by rfl)]
  obtain ⟨Z, hZ16, hZ⟩ := hHeld.2.2.1
  refine wp_store_row 28 _ _ rfl (w.heap.size + 1) D1.toArray rfl rfl 28 _ hZ hi1 (by rw [hZ16, List.size_toArray, HL1.out]) HA1.out ?_
  have hHeld1 := HS1.set1 hHeld D1.toArray HL1.out
  refine hK.out _ _ hHeld1 (fun _ => ?_)
  clear hK K
  try simp only [Act.put, List.setIfInBounds_toArray, List.set_cons_zero, List.set_cons_succ]
  refine wpAnyH_ready (rs := [7]) (by kernel_rfl) (by simp) ?_
  refine AllReadyH.cons (o := { dst := none, op := Go.Op.store 28 (Go.Operand.tmp 3) (Go.Operand.tmp 9), type := 0, pos := _, after := #[{ on := 5, ground := Go.Ground.data }, { on := 6, ground := Go.Ground.chain }, { on := 0, ground := Go.Ground.phase }, { on := 1, ground := Go.Ground.phase }, { on := 2, ground := Go.Ground.phase }, { on := 3, ground := Go.Ground.phase }, { on := 4, ground := Go.Ground.phase }, { on := 5, ground := Go.Ground.phase }, { on := 6, ground := Go.Ground.phase }], guard := none }) rfl (fun K hK => ?_) AllReadyH.nil
  rw [if_pos (by rfl)]
  obtain ⟨Y, hY16, hY⟩ := hHeld1.2.2.2.1
  refine wp_store_row 28 _ _ rfl (w.heap.size + 2) D2.toArray rfl rfl 28 _ hY hi2 (by rw [hY16, List.size_toArray, HL2.out]) HA2.out ?_
  have hHeld2 := HS1.set2 hHeld1 D2.toArray HL2.out
  refine hK.out _ _ hHeld2 (fun _ => ?_)
  clear hK K
  try simp only [Act.put, List.setIfInBounds_toArray, List.set_cons_zero, List.set_cons_succ]
  refine wpAnyH_done (by kernel_rfl) ?_ _
  have HR1 : Hid _ := (setRow_other _ (w.heap.size + 2) (w.heap.size + 1) D2.toArray (by omega)).trans (setRow_heap _ _ _ D1.toArray _ _ hZ)
  have HR2 : Hid _ := setRow_heap _ _ _ D2.toArray _ _ hY
  have HBB : Hid _ := hHeld2.2.2.2.2
  clear hHeld hHeld1 hHeld2 hZ hY
  go_wp2
  refine bodyPost_ret (v := .tuple #[.agg D1.toArray, .agg D2.toArray]) ?_ rfl ⟨rfl, HBB.out⟩
  exact results_two Try.results12 _ _ (w.heap.size + 1) (w.heap.size + 2) _ _ _ _ _ _ rfl rfl HR1.out HR2.out hi1 hi2

theorem z16 : (List.replicate 16 (Value.int .u8 0)).toArray.size = 16 := rfl
/-- What stays while ref's Half ends. -/
def HS2 (w : World) (D1 D2 : List Value) (w' : World) : Prop :=
  w'.rangeAt (w.heap.size + 3) 0 D1 ∧ w'.rangeAt (w.heap.size + 4) 0 D2 ∧ (∃ Z : Array Value, Z.size = 16 ∧ w'.heap[w.heap.size + 1]? = some (.cells Z 28 (0, 0))) ∧ (∃ Z : Array Value, Z.size = 16 ∧ w'.heap[w.heap.size + 2]? = some (.cells Z 28 (0, 0))) ∧ Below w.heap.size w w'
theorem HS2.set1 {w a : World} {D1 D2 : List Value} (h : HS2 w D1 D2 a) (N : Array Value) (hn : N.size = 16) : HS2 w D1 D2 (a.setRow (w.heap.size + 1) N) := by
  obtain ⟨h1, h2, ⟨Z, z1, z2⟩, ⟨Y, y1, y2⟩, h3⟩ := h
  exact ⟨rangeAt_setRow h1 (by omega), rangeAt_setRow h2 (by omega), ⟨N, hn, setRow_heap _ _ _ _ _ _ z2⟩, ⟨Y, y1, (setRow_other _ _ _ _ (by omega)).trans y2⟩, below_setRow h3 (by omega) _⟩
theorem HS2.set2 {w a : World} {D1 D2 : List Value} (h : HS2 w D1 D2 a) (N : Array Value) (hn : N.size = 16) : HS2 w D1 D2 (a.setRow (w.heap.size + 2) N) := by
  obtain ⟨h1, h2, ⟨Z, z1, z2⟩, ⟨Y, y1, y2⟩, h3⟩ := h
  exact ⟨rangeAt_setRow h1 (by omega), rangeAt_setRow h2 (by omega), ⟨Z, z1, (setRow_other _ _ _ _ (by omega)).trans z2⟩, ⟨N, hn, setRow_heap _ _ _ _ _ _ y2⟩, below_setRow h3 (by omega) _⟩
theorem h5 (w : World) (a b c d e : Obj) : (((((w.alloc a).alloc b).alloc c).alloc d).alloc e).heap[w.heap.size]? = some a ∧ (((((w.alloc a).alloc b).alloc c).alloc d).alloc e).heap[w.heap.size + 1]? = some b ∧ (((((w.alloc a).alloc b).alloc c).alloc d).alloc e).heap[w.heap.size + 2]? = some c ∧ (((((w.alloc a).alloc b).alloc c).alloc d).alloc e).heap[w.heap.size + 3]? = some d ∧ (((((w.alloc a).alloc b).alloc c).alloc d).alloc e).heap[w.heap.size + 4]? = some e := by
  refine ⟨?_, ?_, ?_, ?_, ?_⟩
  · rw [Below.heap_alloc _ _ _ (by simp <;> omega), Below.heap_alloc _ _ _ (by simp <;> omega), Below.heap_alloc _ _ _ (by simp <;> omega), Below.heap_alloc _ _ _ (by simp)]; exact heap_alloc_new _ _
  · rw [Below.heap_alloc _ _ _ (by simp <;> omega), Below.heap_alloc _ _ _ (by simp <;> omega), Below.heap_alloc _ _ _ (by simp)]; exact heap_at _ _ _ (by simp)
  · rw [Below.heap_alloc _ _ _ (by simp <;> omega), Below.heap_alloc _ _ _ (by simp)]; exact heap_at _ _ _ (by simp)
  · rw [Below.heap_alloc _ _ _ (by simp)]; exact heap_at _ _ _ (by simp)
  · exact heap_at _ _ _ (by simp)

set_option maxHeartbeats 4000000 in
set_option maxRecDepth 100000 in
theorem refHalf_any (d : List UInt8) (w : World) (hd : d.length = 32) :
    Calls Try.prog 13 #[.agg (d.map B8).toArray] w fun e w' => e = .returned (.tuple #[.agg ((d.take 16).map B8).toArray, .agg ((d.drop 16).map B8).toArray]) ∧ Below w.heap.size w w' := by
  obtain ⟨A, hA⟩ : ∃ A, A = d.take 16 := ⟨_, rfl⟩
  obtain ⟨B, hB⟩ : ∃ B, B = d.drop 16 := ⟨_, rfl⟩
  have HAl : Hid (A.length = 16) := by show _ = _; rw [hA]; simp [hd]
  have HBl : Hid (B.length = 16) := by show _ = _; rw [hB]; simp [hd]
  obtain ⟨DA, hDA⟩ : ∃ DA, DA = (d.map B8).toArray := ⟨_, rfl⟩
  have HCA : Hid (∀ k, k < 16 → DA[k]? = some (.int .u8 ((A.getD k 0).toNat : Int))) := fun k hk => by
    rw [hDA, hA]
    have h1 : k < d.length := by omega
    simp [B8, List.getD, List.getElem?_take_of_lt hk, List.getElem?_eq_getElem h1]
  have HCB : Hid (∀ k, k < 16 → DA[16 + k]? = some (.int .u8 ((B.getD k 0).toNat : Int))) := fun k hk => by
    rw [hDA, hB]
    have h1 : 16 + k < d.length := by omega
    simp [B8, List.getD, List.getElem?_drop, List.getElem?_eq_getElem h1]
  rw [← hDA, ← hA, ← hB]
  clear hA hB hDA hd
  go_enter Try.func13, Try.ntmps13
  go_wp2
  go_loopw [6] (fun i wr => ∃ k : Nat, k ≤ 16 ∧ i = .int .i64 k ∧ wr.heap[w.heap.size]? = some (.cells DA 24 (0, 0)) ∧ wr.heap[w.heap.size + 1]? = some (.cells (List.replicate 16 (Value.int .u8 0)).toArray 28 (0, 0)) ∧ wr.heap[w.heap.size + 2]? = some (.cells (List.replicate 16 (Value.int .u8 0)).toArray 28 (0, 0)) ∧ wr.heap[w.heap.size + 3]? = some (.cells ((bpart 16 A k).map B8).toArray 28 (0, 0)) ∧ wr.heap[w.heap.size + 4]? = some (.cells ((bpart 16 B k).map B8).toArray 28 (0, 0)) ∧ Below w.heap.size w wr) (fun i _ => 16 - (intOf i).toNat)
  case atStart =>
    have h := h5 w (.cells DA 24) (.cells (List.replicate 16 (Value.int .u8 0)).toArray 28) (.cells (List.replicate 16 (Value.int .u8 0)).toArray 28) (.cells ((bpart 16 A 0).map B8).toArray 28) (.cells ((bpart 16 B 0).map B8).toArray 28)
    exact ⟨0, by omega, rfl, h.1, h.2.1, h.2.2.1, h.2.2.2.1, h.2.2.2.2, ((((((Below.refl _ _).alloc (Nat.le_refl _) _).alloc (by simp) _).alloc (by simp; omega) _).alloc (by simp; omega) _).alloc (by simp; omega) _)⟩
  case round =>
    obtain ⟨k, hk, rfl, h0, h1, h2, h3, h4, hbel⟩ := hrel
    have H0 : Hid _ := h0
    have H1 : Hid _ := h1
    have H2 : Hid _ := h2
    have H3 : Hid _ := h3
    have H4 : Hid _ := h4
    by_cases hlt : k < 16
    · have hcx := (cell_of_row _ _ k _ _ _ h0).trans (HCA.out k hlt)
      have hcy := (cell_of_row _ _ (16 + k) _ _ _ h0).trans (HCB.out k hlt)
      obtain ⟨u, hu⟩ := bpart_cell 16 A k HAl.out hlt
      obtain ⟨v, hv⟩ := bpart_cell 16 B k HBl.out hlt
      have hcu := cell_of_row _ _ k _ _ _ h3
      rw [hu] at hcu
      have hcv := cell_of_row _ _ k _ _ _ h4
      rw [hv] at hcv
      have hfu := frozen_of_row _ _ k _ _ h3
      have hfv := frozen_of_row _ _ k _ _ h4
      have HSA : Hid _ := bpart_set 16 A k HAl.out hlt
      have HSB : Hid _ := bpart_set 16 B k HBl.out hlt
      have HX : Hid (B8 (A.getD k 0) = .int .u8 ((A.getD k 0).toNat : Int)) := rfl
      have HY : Hid (B8 (B.getD k 0) = .int .u8 ((B.getD k 0).toNat : Int)) := rfl
      generalize A.getD k 0 = x at *
      generalize B.getD k 0 = y at *
      have hcy' : ∀ z, (wr.setCell ⟨w.heap.size + 3, k, none⟩ z).cell? ⟨w.heap.size, 16 + k, none⟩ = some (.int .u8 (y.toNat : Int)) := fun z => by rw [cell_far _ _ _ _ (by simp)]; exact hcy
      have hcv' : ∀ z, (wr.setCell ⟨w.heap.size + 3, k, none⟩ z).cell? ⟨w.heap.size + 4, k, none⟩ = some v := fun z => by rw [cell_far _ _ _ _ (by simp)]; exact hcv
      have hfv' : ∀ z, (wr.setCell ⟨w.heap.size + 3, k, none⟩ z).frozen? ⟨w.heap.size + 4, k, none⟩ = false := fun z => frozen_of_row _ _ k _ _ ((heap_setCell_other _ _ _ _ (by simp)).trans H4.out)
      clear h0 h1 h2 h3 h4 hu hv
      go_wp2
      go_roundw
      case rel =>
        refine ⟨k + 1, by omega, by go_num, ?_, ?_, ?_, ?_, ?_, (hbel.setCell (p := ⟨w.heap.size + 3, k, none⟩) (by simp <;> omega) _).setCell (p := ⟨w.heap.size + 4, k, none⟩) (by simp <;> omega) _⟩
        · rw [heap_setCell_other _ _ _ _ (by simp <;> omega), heap_setCell_other _ _ _ _ (by simp <;> omega)]; exact H0.out
        · rw [heap_setCell_other _ _ _ _ (by simp <;> omega), heap_setCell_other _ _ _ _ (by simp <;> omega)]; exact H1.out
        · rw [heap_setCell_other _ _ _ _ (by simp <;> omega), heap_setCell_other _ _ _ _ (by simp <;> omega)]; exact H2.out
        · rw [heap_setCell_other _ _ _ _ (by simp <;> omega), ← HSA.out, HX.out]; exact heap_setCell_same _ (w.heap.size + 3) k _ 28 _ H3.out
        · rw [← HSB.out, HY.out]; exact heap_setCell_same _ (w.heap.size + 4) k _ 28 _ ((heap_setCell_other _ _ _ _ (by simp <;> omega)).trans H4.out)
      case measure => simp [intOf]; omega
    · have hk16 : k = 16 := by omega
      rw [hk16, bpart_all 16 A HAl.out] at h3
      rw [hk16, bpart_all 16 B HBl.out] at h4
      obtain ⟨D1, hD1⟩ : ∃ D1, D1 = A.map B8 := ⟨_, rfl⟩
      obtain ⟨D2, hD2⟩ : ∃ D2, D2 = B.map B8 := ⟨_, rfl⟩
      have HL1 : Hid (D1.length = 16) := by show _ = _; rw [hD1, List.length_map]; exact HAl.out
      have HL2 : Hid (D2.length = 16) := by show _ = _; rw [hD2, List.length_map]; exact HBl.out
      have hi1 : (Try.prog.info? 28).map (·.size) = some D1.length := by rw [HL1.out]; kernel_rfl
      have hi2 : (Try.prog.info? 28).map (·.size) = some D2.length := by rw [HL2.out]; kernel_rfl
      have HA1 : Hid (D1.toArray.all (·.oneCell') = true) := by show _ = _; rw [hD1]; exact B8_onea _
      have HA2 : Hid (D2.toArray.all (·.oneCell') = true) := by show _ = _; rw [hD2]; exact B8_onea _
      have hu := Try.underlying28
      rw [← hD1] at h3
      rw [← hD2] at h4
      have HDD1 : Hid _ := hD1
      have HDD2 : Hid _ := hD2
      have HS : Hid (HS2 w D1 D2 wr.drew) := ⟨rangeAt_row (by rw [heap_drew]; exact h3), rangeAt_row (by rw [heap_drew]; exact h4), ⟨_, z16, by rw [heap_drew]; exact H1.out⟩, ⟨_, z16, by rw [heap_drew]; exact H2.out⟩, hbel.drew⟩
      clear h0 h1 h2 h3 h4 hD1 hD2
      go_wp2
      refine wp_region_held_drew (S := HS2 w D1 D2) (by kernel_rfl) HS.out (fun hHeld => ?_)
      refine wpAnyH_take (i := 0) (oi := { dst := some 22, op := Go.Op.load 28 (Go.Operand.tmp 4), type := 28, pos := _, after := #[], guard := none }) rfl (by kernel_rfl) (by kernel_rfl) (by kernel_rfl) (fun _ _ _ h => h) (yieldsIf_load_mid (by rfl) 28 (.tmp 4) rfl (w.heap.size + 3) (0) rfl (D1) _ (fun _ h => h.1) hu rfl hi1) hHeld ?_
      try simp only [Act.put, List.setIfInBounds_toArray, List.set_cons_zero, List.set_cons_succ]
      refine wpAnyH_take (i := 1) (oi := { dst := some 23, op := Go.Op.load 28 (Go.Operand.tmp 5), type := 28, pos := _, after := #[{ on := 2, ground := Go.Ground.gcOnly Go.Departure.lateStores }], guard := none }) rfl (by kernel_rfl) (by kernel_rfl) (by kernel_rfl) (fun _ _ _ h => h) (yieldsIf_load_mid (by rfl) 28 (.tmp 5) rfl (w.heap.size + 4) (0) rfl (D2) _ (fun _ h => h.2.1) hu rfl hi2) hHeld ?_
      try simp only [Act.put, List.setIfInBounds_toArray, List.set_cons_zero, List.set_cons_succ]
      refine wpAnyH_ready (rs := [2]) (by kernel_rfl) (by simp) ?_
      refine AllReadyH.cons (o := { dst := none, op := Go.Op.store 28 (Go.Operand.tmp 2) (Go.Operand.tmp 22), type := 0, pos := _, after := #[{ on := 0, ground := Go.Ground.data }, { on := 0, ground := Go.Ground.phase }, { on := 1, ground := Go.Ground.textOnly Go.Departure.lateStores }], guard := none }) rfl (fun K hK => ?_) AllReadyH.nil
      rw [if_pos (by rfl)]
      obtain ⟨Z, hZ16, hZ⟩ := hHeld.2.2.1
      refine wp_store_row 28 _ _ rfl (w.heap.size + 1) D1.toArray rfl rfl 28 _ hZ hi1 (by rw [hZ16, List.size_toArray, HL1.out]) HA1.out ?_
      have hHeld1 := HS2.set1 hHeld D1.toArray HL1.out
      refine hK.out _ _ hHeld1 (fun _ => ?_)
      clear hK K
      try simp only [Act.put, List.setIfInBounds_toArray, List.set_cons_zero, List.set_cons_succ]
      refine wpAnyH_ready (rs := [3]) (by kernel_rfl) (by simp) ?_
      refine AllReadyH.cons (o := { dst := none, op := Go.Op.store 28 (Go.Operand.tmp 3) (Go.Operand.tmp 23), type := 0, pos := _, after := #[{ on := 1, ground := Go.Ground.data }, { on := 2, ground := Go.Ground.chain }, { on := 0, ground := Go.Ground.phase }, { on := 1, ground := Go.Ground.phase }, { on := 2, ground := Go.Ground.phase }], guard := none }) rfl (fun K hK => ?_) AllReadyH.nil
      rw [if_pos (by rfl)]
      obtain ⟨Y, hY16, hY⟩ := hHeld1.2.2.2.1
      refine wp_store_row 28 _ _ rfl (w.heap.size + 2) D2.toArray rfl rfl 28 _ hY hi2 (by rw [hY16, List.size_toArray, HL2.out]) HA2.out ?_
      have hHeld2 := HS2.set2 hHeld1 D2.toArray HL2.out
      refine hK.out _ _ hHeld2 (fun _ => ?_)
      clear hK K
      try simp only [Act.put, List.setIfInBounds_toArray, List.set_cons_zero, List.set_cons_succ]
      refine wpAnyH_done (by kernel_rfl) ?_ _
      have HR1 : Hid _ := (setRow_other _ (w.heap.size + 2) (w.heap.size + 1) D2.toArray (by omega)).trans (setRow_heap _ _ _ D1.toArray _ _ hZ)
      have HR2 : Hid _ := setRow_heap _ _ _ D2.toArray _ _ hY
      have HBB : Hid _ := hHeld2.2.2.2.2
      clear hHeld hHeld1 hHeld2 hZ hY
      go_wp2
      refine bodyPost_ret (v := .tuple #[.agg D1.toArray, .agg D2.toArray]) ?_ rfl ⟨by rw [HDD1.out, HDD2.out], HBB.out⟩
      exact results_two Try.results13 _ _ (w.heap.size + 1) (w.heap.size + 2) _ _ _ _ _ _ rfl rfl HR1.out HR2.out hi1 hi2

end Go.Proofs.Ytojafgilpnnbiab
