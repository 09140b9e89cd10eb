/- Several texts in one. -/
import Derived.Test.YtbmmibmfjhehhaaGreatWr
import Derived.OwnWalk
import Derived.Test.YtbmmibmfjhehhaaGreatWb
set_option linter.unusedVariables false
set_option linter.unusedSimpArgs false
/- Contract of the program's asked. -/
namespace Go.Proofs.YtbmmibmfjhehhaaGreat.R5
open scoped Classical
open Go.RowKit

def HBf (w : World) (b : Nat) (v : Value) (l : List UInt8) : Prop := HB w v l ∧ v.ownBlock = some b ∧ ∃ cs, w.heap[b]? = some (.cells cs 5 (cs.size, cs.size + 1))
theorem hbf_keep {w w' : World} {b : Nat} {v : Value} {l : List UInt8} (h : HBf w b v l) (hk : w'.heap[b]? = w.heap[b]?) : HBf w' b v l := by
  obtain ⟨h1, h2, cs, h3⟩ := h
  refine ⟨hb_keep h1 (fun k e _ => ?_), h2, cs, hk.trans h3⟩
  have e' : b = k := by rw [h2] at e; simpa using e
  rw [← e']; exact hk
theorem conv_new (W : World) (l : List UInt8) (hl : l.length ≤ 1099511627776) : ∃ cap w', (convert 9 64 (tx l)).run Tryz.prog W = .ok (.slice (some ⟨W.heap.size, 0, none⟩) l.length cap) w' ∧ HBf w' W.heap.size (.slice (some ⟨W.heap.size, 0, none⟩) l.length cap) l ∧ Below W.heap.size W w' ∧ W.heap.size < w'.heap.size := by
  have hs : (⟨l.toArray⟩ : ByteArray).size = l.length := by simp [ByteArray.size]
  have hrun := run_bytes_of_string (P := Tryz.prog) W 9 64 5 (⟨l.toArray⟩ : ByteArray) Tryz.underlying9 Tryz.underlying64 Tryz.underlying5
  rw [hs] at hrun
  refine ⟨_, _, hrun, ⟨?_, rfl, _, heap_alloc_new W.drew _⟩, ((Below.refl _ _).drew).alloc (Nat.le_refl _) _, by simp⟩
  by_cases h0 : l.length = 0
  · refine .inl ⟨List.eq_nil_of_length_eq_zero h0, some ⟨W.heap.size, 0, none⟩, _, by rw [h0], fun h => by cases h⟩
  · refine .inr ⟨W.heap.size, 0, _, rfl, grownCap_ge _ _ _ _, grownCap_le_maxLen _ _ _ _ (by unfold maxLen; omega), fun i hi => ?_⟩
    have hrow : ∀ o : Obj, (W.drew.alloc o).heap[W.heap.size]? = some o := fun o => heap_alloc_new W.drew o
    rw [Nat.zero_add, cell_of_row _ W.heap.size i _ _ _ (hrow _)]
    unfold bytesRow
    rw [Array.getElem?_append_left (by simpa using hi)]
    simp [List.getD, List.getElem?_eq_getElem hi]
theorem wp_convn {op : Oper} {a : Act} {K : Act → World → Prop} {Q : Exit → Act → World → Prop} {W : World} (x : Operand) (l : List UInt8) (ho : op.op = .convert 9 64 x) (hx : a.eval x = tx l) (hl : l.length ≤ 1099511627776)
    (h : ∀ cap w', HBf w' W.heap.size (.slice (some ⟨W.heap.size, 0, none⟩) l.length cap) l → Below W.heap.size W w' → W.heap.size < w'.heap.size → K (a.put op.dst (.slice (some ⟨W.heap.size, 0, none⟩) l.length cap)) w') : op.wp Tryz.prog a W K Q := by
  obtain ⟨cap, w', hrun, h1, h2, h3⟩ := conv_new W l hl
  unfold Oper.wp
  simp [execOp, ho, hx, hrun, Result.andThen]
  exact h cap w' h1 h2 h3
theorem info67a (RS : Array Value) (h : RS.size = 67) : (Tryz.prog.info? 68).map (·.size) = some RS.size := by rw [h]; kernel_rfl
theorem zero_asked (w : World) : (zeroValue 68).run Tryz.prog w = .ok (.agg zAk.toArray) w := by kernel_rfl
structure SAs (w : World) (KL : List Value) (X : World) : Prop where
  b : Below w.heap.size w X
  k : X.heap[w.heap.size]? = some (.cells KL.toArray 63 (0, 0))
  z : ∃ Z, Z.size = 67 ∧ X.heap[w.heap.size + 1]? = some (.cells Z 68 (0, 0))
theorem SAs.step {w : World} {KL : List Value} {X Y : World} (h : SAs w KL X) (hb : Below X.heap.size X Y) : SAs w KL Y := by
  obtain ⟨Z, h1, h2⟩ := h.z
  exact ⟨h.b.trans (hb.mono h.b.size), (hb.block _ (row_lt h.k)).trans h.k, Z, h1, (hb.block _ (row_lt h2)).trans h2⟩
def AskedEnd (w : World) (x : Qn × List UInt8) (e : Ending) (w' : World) : Prop :=
  ∃ b cap, e = .returned (.agg (aL x (.slice (some ⟨b, 0, none⟩) x.1.data.length cap)).toArray) ∧ w.heap.size ≤ b ∧ b < w'.heap.size ∧ HBf w' b (.slice (some ⟨b, 0, none⟩) x.1.data.length cap) x.1.data ∧ Below w.heap.size w w'
set_option maxHeartbeats 4000000 in
set_option maxRecDepth 100000 in
theorem asked_any (og mb : Nat) (l : List (Qn × List UInt8)) (q : Qn) (A : List UInt8) (w : World) (hc : w.cell? ⟨og, 35, none⟩ = some (.map (some mb))) (hl : lOk l) (hm : MH w mb l) (hq : kOk q) (hf : fndA q l = some A) :
    Calls Tryz.prog 23 #[.pointer (some ⟨og, 0, none⟩), .agg (kL q).toArray] w fun e w' => AskedEnd w (q, A) e w' := by
  have hog := block_lt hc
  simp only at hog
  have hqk := hq.key
  have hAl : A.length = 32 := (hl.all _ (fndA_some hf)).2
  have HDT : Hid _ := hq.data
  have hza := fun W => zero_asked W
  have HLK : Hid (∀ X, Below w.heap.size w X → (Instr.lookup 57 (.map (some mb)) (.agg (kL q).toArray) false).run Tryz.prog X = .ok (.agg (A.map B8).toArray) X) := fun X hX => by
    have h1 := mh_look (w := X) hl (hm.keep (hX.block _ hm.lt)) hq false (zero_dig X)
    unfold lookV at h1
    rw [hf] at h1
    exact h1
  have HC : Hid (∀ X, Below w.heap.size w X → X.cell? ⟨og, 35, none⟩ = some (.map (some mb))) := fun X hX => (hX.cell (show (⟨og, 35, none⟩ : Addr).block < w.heap.size from hog)).trans hc
  have HR : Hid (∀ X : World, X.heap[w.heap.size]? = some (.cells (kL q).toArray 63 (0, 0)) → X.cell? ⟨w.heap.size, 0, none⟩ = some (.int .i64 q.kind) ∧ X.rangeAt w.heap.size 1 (q.key.map B8) ∧ X.cell? ⟨w.heap.size, 33, none⟩ = some (.int .i64 q.dom) ∧ X.cell? ⟨w.heap.size, 34, none⟩ = some (tx q.data)) := fun X hX => q_facts hqk hX
  have HKY : Hid ((q.key.map B8).length = 32) := by show _ = _; simpa using hqk
  have HKI : Hid _ := info32 (q.key.map B8) HKY.out
  have HKL : Hid ((kL q).length = 35) := kL_len q hqk
  have HKI2 : Hid _ := info35k (kL q) HKL.out
  have HAL : Hid ((A.map B8).length = 32) := by show _ = _; simpa using hAl
  have HAO : Hid (∀ (b cap : Nat), qL q (.slice (some ⟨b, 0, none⟩) q.data.length cap) ++ A.map B8 = aL (q, A) (.slice (some ⟨b, 0, none⟩) q.data.length cap)) := fun b cap => rfl
  have HQ4 : Hid (∀ (b cap : Nat) (W : World), (Instr.build 66 #[(0, .int .i64 q.kind), (1, .agg (q.key.map B8).toArray), (2, .int .i64 q.dom), (3, .slice (some ⟨b, 0, none⟩) q.data.length cap)]).run Tryz.prog W = .ok (.agg (qL q (.slice (some ⟨b, 0, none⟩) q.data.length cap)).toArray) W) := fun b cap W => build_q4 W q.kind q.dom (q.key.map B8) HKY.out (some ⟨b, 0, none⟩) q.data.length cap
  have HQN : Hid (∀ (b cap : Nat), (qL q (.slice (some ⟨b, 0, none⟩) q.data.length cap)).length = 35) := fun b cap => qL_len q _ hqk
  have HA1 : Hid (∀ (b cap : Nat), (qL q (.slice (some ⟨b, 0, none⟩) q.data.length cap) ++ A.map B8).toArray.all (·.oneCell') = true) := fun b cap => by
    rw [Array.all_eq_true_iff_forall_mem]
    intro v hv
    have hv' : v ∈ qL q (.slice (some ⟨b, 0, none⟩) q.data.length cap) ++ A.map B8 := by simpa using hv
    rcases List.mem_append.1 hv' with h | h
    · exact qL_one q _ rfl v h
    · exact B8_one A v h
  obtain ⟨KL, hKL⟩ : ∃ L, L = kL q := ⟨_, rfl⟩
  obtain ⟨ZA, hZA⟩ : ∃ Z, Z = zAk.toArray := ⟨_, rfl⟩
  have HZA : Hid (ZA.size = 67) := by show _ = _; rw [hZA]; kernel_rfl
  rw [← hZA] at hza
  rw [← hKL] at HLK HR HKL HKI2 ⊢
  have HS0 : Hid (SAs w KL ((w.alloc (.cells KL.toArray 63 (0, 0))).alloc (.cells ZA 68 (0, 0))).drew) := ⟨(((Below.refl _ _).alloc (Nat.le_refl _) _).alloc (by simp) _).drew, alloc2_first _ _ _, ZA, HZA.out, heap_at _ _ _ (by simp)⟩
  clear hc hl hm hf hAl hKL hZA hq hqk
  go_enter Tryz.func23, Tryz.ntmps23
  go_wp2
  refine wp_region_held_drew (S := SAs w KL) (by kernel_rfl) HS0.out (fun hHeld => ?_)
  generalize ((w.alloc (.cells KL.toArray 63 (0, 0))).alloc (.cells ZA 68 (0, 0))).drew = W at *
  refine wpAnyH_take (i := 0) (oi := ⟨some 5, .fieldAddr 63 (.tmp 3) 0, 0, _, #[], none⟩) (v := .pointer (some ⟨w.heap.size, 0, none⟩)) rfl (by kernel_rfl) (by kernel_rfl) (by kernel_rfl) (fun _ _ _ h => h) (Or.inl ⟨by rfl, fun w' hw' => ?_⟩) hHeld ?_
  · first | (go_simp; done) | (go_simp; rfl)
  try simp only [Act.put, qT, q0, qS]
  refine wpAnyH_take (i := 1) (oi := ⟨some 6, .load 60 (.tmp 5), 60, _, #[⟨0, .data⟩], none⟩) (v := .int .i64 q.kind) rfl (by kernel_rfl) (by kernel_rfl) (by kernel_rfl) (fun _ _ _ h => h) (Or.inl ⟨by rfl, fun w' hw' => ?_⟩) hHeld ?_
  · have hcc := (HR.out w' hw'.k).1; first | (go_simp; done) | (go_simp; rfl)
  try simp only [Act.put, qT, q0, qS]
  refine wpAnyH_take (i := 2) (oi := ⟨some 7, .fieldAddr 63 (.tmp 3) 1, 0, _, #[], none⟩) (v := .pointer (some ⟨w.heap.size, 1, none⟩)) rfl (by kernel_rfl) (by kernel_rfl) (by kernel_rfl) (fun _ _ _ h => h) (Or.inl ⟨by rfl, fun w' hw' => ?_⟩) hHeld ?_
  · first | (go_simp; done) | (go_simp; rfl)
  try simp only [Act.put, qT, q0, qS]
  refine wpAnyH_take (i := 3) (oi := ⟨some 8, .load 23 (.tmp 7), 23, _, #[⟨2, .data⟩], none⟩) rfl (by kernel_rfl) (by kernel_rfl) (by kernel_rfl) (fun _ _ _ h => h) (yieldsIf_load_mid (by rfl) 23 (.tmp 7) rfl (w.heap.size) (1) rfl (q.key.map B8) _ (fun _ h => (HR.out _ h.k).2.1) Tryz.underlying23 rfl HKI.out) hHeld ?_
  try simp only [Act.put, qT, q0, qS]
  refine wpAnyH_take (i := 4) (oi := ⟨some 9, .fieldAddr 63 (.tmp 3) 2, 0, _, #[], none⟩) (v := .pointer (some ⟨w.heap.size, 33, none⟩)) rfl (by kernel_rfl) (by kernel_rfl) (by kernel_rfl) (fun _ _ _ h => h) (Or.inl ⟨by rfl, fun w' hw' => ?_⟩) hHeld ?_
  · first | (go_simp; done) | (go_simp; rfl)
  try simp only [Act.put, qT, q0, qS]
  refine wpAnyH_take (i := 5) (oi := ⟨some 10, .load 61 (.tmp 9), 61, _, #[⟨4, .data⟩], none⟩) (v := .int .i64 q.dom) rfl (by kernel_rfl) (by kernel_rfl) (by kernel_rfl) (fun _ _ _ h => h) (Or.inl ⟨by rfl, fun w' hw' => ?_⟩) hHeld ?_
  · have hcc := (HR.out w' hw'.k).2.2.1; first | (go_simp; done) | (go_simp; rfl)
  try simp only [Act.put, qT, q0, qS]
  refine wpAnyH_take (i := 6) (oi := ⟨some 11, .fieldAddr 63 (.tmp 3) 3, 0, _, #[], none⟩) (v := .pointer (some ⟨w.heap.size, 34, none⟩)) rfl (by kernel_rfl) (by kernel_rfl) (by kernel_rfl) (fun _ _ _ h => h) (Or.inl ⟨by rfl, fun w' hw' => ?_⟩) hHeld ?_
  · first | (go_simp; done) | (go_simp; rfl)
  try simp only [Act.put, qT, q0, qS]
  refine wpAnyH_take (i := 7) (oi := ⟨some 12, .load 9 (.tmp 11), 9, _, #[⟨6, .data⟩], none⟩) (v := tx q.data) rfl (by kernel_rfl) (by kernel_rfl) (by kernel_rfl) (fun _ _ _ h => h) (Or.inl ⟨by rfl, fun w' hw' => ?_⟩) hHeld ?_
  · have hcc := (HR.out w' hw'.k).2.2.2; first | (go_simp; done) | (go_simp; rfl)
  try simp only [Act.put, qT, q0, qS]
  refine wpAnyH_take (i := 10) (oi := ⟨some 15, .move (.tmp 0), 31, _, #[], none⟩) (v := .pointer (some ⟨og, 0, none⟩)) rfl (by kernel_rfl) (by kernel_rfl) (by kernel_rfl) (fun _ _ _ h => h) (Or.inl ⟨by rfl, fun w' hw' => ?_⟩) hHeld ?_
  · first | (go_simp; done) | (go_simp; rfl)
  try simp only [Act.put, qT, q0, qS]
  refine wpAnyH_take (i := 11) (oi := ⟨some 16, .nilCheck (.tmp 15), 0, _, #[⟨10, .data⟩], none⟩) (v := .pointer (some ⟨og, 0, none⟩)) rfl (by kernel_rfl) (by kernel_rfl) (by kernel_rfl) (fun _ _ _ h => h) (Or.inl ⟨by rfl, fun w' hw' => ?_⟩) hHeld ?_
  · first | (go_simp; done) | (go_simp; rfl)
  try simp only [Act.put, qT, q0, qS]
  refine wpAnyH_take (i := 12) (oi := ⟨some 17, .fieldAddr 59 (.tmp 16) 4, 0, _, #[⟨11, .data⟩], none⟩) (v := .pointer (some ⟨og, 35, none⟩)) rfl (by kernel_rfl) (by kernel_rfl) (by kernel_rfl) (fun _ _ _ h => h) (Or.inl ⟨by rfl, fun w' hw' => ?_⟩) hHeld ?_
  · first | (go_simp; done) | (go_simp; rfl)
  try simp only [Act.put, qT, q0, qS]
  refine wpAnyH_take (i := 13) (oi := ⟨some 18, .load 57 (.tmp 17), 57, _, #[⟨12, .data⟩], none⟩) (v := .map (some mb)) rfl (by kernel_rfl) (by kernel_rfl) (by kernel_rfl) (fun _ _ _ h => h) (Or.inl ⟨by rfl, fun w' hw' => ?_⟩) hHeld ?_
  · have hcc := HC.out w' hw'.b; first | (go_simp; done) | (go_simp; rfl)
  try simp only [Act.put, qT, q0, qS]
  refine wpAnyH_take (i := 14) (oi := ⟨some 19, .load 63 (.tmp 3), 63, _, #[], none⟩) rfl (by kernel_rfl) (by kernel_rfl) (by kernel_rfl) (fun _ _ _ h => h) (yieldsIf_load_mid (by rfl) 63 (.tmp 3) rfl (w.heap.size) (0) rfl (KL) _ (fun _ h => rangeAt_row h.k) Tryz.underlying63 rfl HKI2.out) hHeld ?_
  try simp only [Act.put, qT, q0, qS]
  refine wpAnyH_take (i := 15) (oi := ⟨some 20, .lookup 57 (.tmp 18) (.tmp 19) false, 23, _, #[⟨13, .data⟩, ⟨14, .data⟩], none⟩) (v := .agg (A.map B8).toArray) rfl (by kernel_rfl) (by kernel_rfl) (by kernel_rfl) (fun _ _ _ h => h) (Or.inl ⟨by rfl, fun w' hw' => ?_⟩) hHeld ?_
  · have hll := HLK.out w' hw'.b; first | (go_simp; done) | (go_simp; rfl)
  try simp only [Act.put, qT, q0, qS]
  refine wpAnyH_ready (rs := [8]) (by kernel_rfl) (by simp) ?_
  refine AllReadyH.cons (o := ⟨some 13, .convert 9 64 (.tmp 12), 64, _, #[⟨7, .data⟩], none⟩) rfl (fun K hK => ?_) AllReadyH.nil
  rw [if_pos (by rfl)]
  refine wp_convn (.tmp 12) q.data rfl rfl HDT.out ?_
  intro cap W1 hbs hbW hW1
  have hsz : w.heap.size + 1 < W.heap.size := by obtain ⟨Z, _, hz⟩ := hHeld.z; exact row_lt hz
  have hH1 := hHeld.step hbW
  have hs1 : w.heap.size ≤ W.heap.size := hHeld.b.size
  have HBS : Hid _ := hbs
  clear hHeld hbW hbs
  refine hK.out _ _ hH1 (fun _ => ?_)
  clear hK K
  try simp only [Act.put, qT, q0, qS]
  have hHeld := hH1
  have HB4 : Hid _ := HQ4.out W.heap.size cap
  have HBA : Hid _ := fun X => build_asked X (qL q (.slice (some ⟨W.heap.size, 0, none⟩) q.data.length cap)) (A.map B8) (HQN.out W.heap.size cap) HAL.out
  have HA1' : Hid _ := HA1.out W.heap.size cap
  have HAO' : Hid _ := HAO.out W.heap.size cap
  have hlen : (qL q (.slice (some ⟨W.heap.size, 0, none⟩) q.data.length cap) ++ A.map B8).toArray.size = 67 := by rw [List.size_toArray, List.length_append, HQN.out, HAL.out]
  have HSZ : Hid _ := hlen
  clear hlen
  generalize qL q (.slice (some ⟨W.heap.size, 0, none⟩) q.data.length cap) = QN at *
  generalize QN ++ A.map B8 = RL at *
  refine wpAnyH_take (i := 9) (oi := ⟨some 14, .build 66 #[(0, .tmp 6), (1, .tmp 8), (2, .tmp 10), (3, .tmp 13)], 66, _, #[⟨1, .data⟩, ⟨3, .data⟩, ⟨5, .data⟩, ⟨8, .data⟩], none⟩) (v := .agg QN.toArray) rfl (by kernel_rfl) (by kernel_rfl) (by kernel_rfl) (fun _ _ _ h => h) (Or.inl ⟨by rfl, fun w' hw' => ?_⟩) hHeld ?_
  · exact exec_build _ _ 66 _ _ _ w' rfl (by simp; exact ⟨rfl, rfl, rfl, rfl⟩) (HB4.out w')
  try simp only [Act.put, qT, q0, qS]
  refine wpAnyH_take (i := 16) (oi := ⟨some 21, .build 68 #[(0, .tmp 14), (1, .tmp 20)], 68, _, #[⟨9, .data⟩, ⟨15, .data⟩], none⟩) (v := .agg RL.toArray) rfl (by kernel_rfl) (by kernel_rfl) (by kernel_rfl) (fun _ _ _ h => h) (Or.inl ⟨by rfl, fun w' hw' => ?_⟩) hHeld ?_
  · exact exec_build _ _ 68 _ _ _ w' rfl (by simp; exact ⟨rfl, rfl⟩) (HBA.out w')
  try simp only [Act.put, qT, q0, qS]
  obtain ⟨Z, hz1, hz2⟩ := hH1.z
  refine wpAnyH_ready (rs := [17]) (by kernel_rfl) (by simp) ?_
  refine AllReadyH.cons (o := ⟨none, .store 68 (.tmp 4) (.tmp 21), 0, _, #[⟨16, .data⟩, ⟨0, .phase⟩, ⟨1, .phase⟩, ⟨2, .phase⟩, ⟨3, .phase⟩, ⟨4, .phase⟩, ⟨5, .phase⟩, ⟨6, .phase⟩, ⟨7, .phase⟩, ⟨8, .phase⟩, ⟨9, .phase⟩, ⟨10, .phase⟩, ⟨11, .phase⟩, ⟨12, .phase⟩, ⟨13, .phase⟩, ⟨14, .phase⟩, ⟨15, .phase⟩, ⟨16, .phase⟩], none⟩) rfl (fun K hK => ?_) AllReadyH.nil
  rw [if_pos (by rfl)]
  refine wp_store_row 68 _ _ rfl (w.heap.size + 1) RL.toArray rfl rfl 68 Z hz2 (info67a _ HSZ.out) (hz1.trans HSZ.out.symm) HA1'.out ?_
  have hr2 := setRow_heap _ _ _ RL.toArray _ _ hz2
  have hH2 : SAs w KL (W1.setRow (w.heap.size + 1) RL.toArray) := ⟨below_setRow hH1.b (by omega) _, (setRow_other _ _ _ _ (by omega)).trans hH1.k, RL.toArray, HSZ.out, hr2⟩
  refine hK.out _ _ hH2 (fun _ => ?_)
  clear hK K
  try simp only [Act.put, qT, q0, qS]
  refine wpAnyH_done (by kernel_rfl) ?_ _
  have HR2 : Hid _ := hr2
  have HEND : Hid (AskedEnd w (q, A) (.returned (.agg RL.toArray)) (W1.setRow (w.heap.size + 1) RL.toArray)) := ⟨W.heap.size, cap, by rw [HAO'.out], by omega, by simpa using hW1, hbf_keep HBS.out (setRow_other _ _ _ _ (by omega)), hH2.b⟩
  clear hHeld hH1 hH2 hz2 hz1 hr2
  go_wp2
  refine bodyPost_ret (v := .agg RL.toArray) ?_ rfl HEND.out
  exact results_cell_row Tryz.results23 _ _ (w.heap.size + 1) 68 _ (0, 0) _ rfl HR2.out Tryz.underlying68 rfl (info67a _ HSZ.out)
end Go.Proofs.YtbmmibmfjhehhaaGreat.R5

/- Contract of the program's Log. -/
namespace Go.Proofs.YtbmmibmfjhehhaaGreat.R5
open scoped Classical
open Go.RowKit

structure LO (B : Nat) (w : World) (v : Value) (l : List (Qn × List UInt8)) (ds : List Value) : Prop where
  ok : lOk l
  len : ds.length = l.length
  own : w.ownsRow B 68 67 v l.length (lC l ds)
  dat : ∀ (i : Nat) (e : Qn × List UInt8) (d : Value), l[i]? = some e → ds[i]? = some d → ∃ b cap, d = .slice (some ⟨b, 0, none⟩) e.1.data.length cap ∧ B ≤ b ∧ b < w.heap.size ∧ v.ownBlock ≠ some b ∧ HBf w b d e.1.data
  apart : ∀ (i j : Nat) (d e : Value) (k : Nat), i < j → ds[i]? = some d → ds[j]? = some e → d.ownBlock = some k → e.ownBlock ≠ some k
theorem LO.hlg {B : Nat} {w : World} {v : Value} {l : List (Qn × List UInt8)} {ds : List Value} (h : LO B w v l ds) : HLg B w v l ds :=
  ⟨fun e he => ⟨(h.ok.all e he).1.key, (h.ok.all e he).2⟩, h.len, h.own, fun i e d he hd => by obtain ⟨_, _, _, _, _, _, h⟩ := h.dat i e d he hd; exact h.1⟩
theorem LO.keep {B : Nat} {w Z : World} {v : Value} {l : List (Qn × List UInt8)} {ds : List Value} (h : LO B w v l ds) (hs : w.heap.size ≤ Z.heap.size) (hk : ∀ k, B ≤ k → k < w.heap.size → Z.heap[k]? = w.heap[k]?) : LO B Z v l ds := by
  refine ⟨h.ok, h.len, own_keep h.own (fun k e hl => hk k (h.own.lt k e).1 hl), fun i e d he hd => ?_, h.apart⟩
  obtain ⟨b, cap, h1, h2, h3, h4, h5⟩ := h.dat i e d he hd
  exact ⟨b, cap, h1, h2, by omega, h4, hbf_keep h5 (hk b h2 h3)⟩
theorem LO.nil (B : Nat) (w : World) (v : Value) (h : w.ownsRow B 68 67 v 0 []) : LO B w v [] [] :=
  ⟨⟨fun x hx => by simp at hx, by simp⟩, rfl, h, fun i e d he => by simp at he, fun i j d e k _ hd => by simp at hd⟩
theorem kC_at : ∀ (l : List (Qn × List UInt8)), (∀ e ∈ l, e.1.key.length = 32) → ∀ (i : Nat) (e : Qn × List UInt8), l[i]? = some e → ∀ j, j < 35 → (kC l)[i * 35 + j]? = (kL e.1)[j]?
  | [], _, i, e, h, _, _ => by simp at h
  | x :: l, h, i, e, he, j, hj => by
    have hx : (kL x.1).length = 35 := kL_len x.1 (h x (by simp))
    unfold kC
    rw [List.flatMap_cons]
    cases i with
    | zero =>
      simp only [List.getElem?_cons_zero, Option.some.injEq] at he
      subst he
      rw [Nat.zero_mul, Nat.zero_add, List.getElem?_append_left (by omega)]
    | succ i =>
      rw [List.getElem?_append_right (by rw [hx]; omega), hx, show (i + 1) * 35 + j - 35 = i * 35 + j by omega]
      simp only [List.getElem?_cons_succ] at he
      exact kC_at l (fun y hy => h y (by simp [hy])) i e he j hj
theorem PO.ordRow {B og mb : Nat} {S : Nat → Prop} {w : World} {o : Pra} {dv ov : Value} (h : PO B og mb S w o dv ov) {k : Nat} {e : Qn × List UInt8} (hk : o.log[k]? = some e) : ∃ g cap, ov = .slice (some ⟨g, 0, none⟩) o.log.length cap ∧ S g ∧ w.rangeAt g (k * 35) (kL e.1) := by
  have hkl : k < o.log.length := (List.getElem?_eq_some_iff.1 hk).1
  rcases h.order.2 with ⟨e1, e2⟩ | ⟨g, cap, cur, e1, e2, e3, e4, e5, e6, e7⟩
  · omega
  · refine ⟨g, cap, e1, (h.sov g (by rw [e1]; rfl)).1, fun j u hu => ?_⟩
    have hel := kL_len e.1 (h.ok.all e (List.mem_of_getElem? hk)).1.key
    have hj : j < 35 := by have := (List.getElem?_eq_some_iff.1 hu).1; omega
    have h1 := kC_at o.log (fun x hx => (h.ok.all x hx).1.key) k e hk j hj
    rw [← e7, List.getElem?_take, if_pos (by omega)] at h1
    rw [cell_of_row _ _ _ _ _ _ e3, ← Array.getElem?_toList, h1]
    exact hu
theorem fnd_at : ∀ {l : List (Qn × List UInt8)}, (l.map (·.1)).Nodup → ∀ {k : Nat} {e : Qn × List UInt8}, l[k]? = some e → fndA e.1 l = some e.2 := fun {l} hn {k} {e} he => by
  cases hf : fndA e.1 l with
  | none => exact absurd rfl (fndA_none hf e (List.mem_of_getElem? he))
  | some A => rw [nodup_snd hn (fndA_some hf) (List.mem_of_getElem? he)]
theorem bs_asked (w : World) (AL : List Value) (h : AL.length = 67) : (Instr.buildSlice 40 1 #[(0, .agg AL.toArray)]).run Tryz.prog w = .ok (.slice (some ⟨w.heap.size, 0, none⟩) 1 1) (w.alloc (.cells AL.toArray 68 (0, 0))) := by
  obtain ⟨i0, hi, hz0, hz1, hz2⟩ := info_parts infoAk
  exact run_buildSlice w 40 68 1 #[(0, .agg AL.toArray)] AL.toArray i0 (.agg zAk.toArray) Tryz.underlying40 hi hz0 (by rw [hz1]; decide) (by rw [hz1]; decide) (by rw [hz1]; exact fill_asked AL h)
theorem aL_one (x : Qn × List UInt8) (p : Option Addr) (n c : Nat) : ∀ u ∈ aL x (.slice p n c), u.oneCell' = true := by
  intro u hu
  unfold aL at hu
  rcases List.mem_append.1 hu with h | h
  · exact qL_one x.1 _ rfl u h
  · exact B8_one x.2 u h
theorem lOk.take {l : List (Qn × List UInt8)} (h : lOk l) (k : Nat) : lOk (l.take k) := by
  refine ⟨fun x hx => h.all x (List.mem_of_mem_take hx), ?_⟩
  rw [List.map_take]
  exact h.once.sublist (List.take_sublist _ _)
theorem LO.more {B : Nat} {w w1 Z : World} {v : Value} {l : List (Qn × List UInt8)} {ds : List Value} {x : Qn × List UInt8} {b cap g cap2 : Nat} (h : LO B w v l ds) (hB : B ≤ w.heap.size) (hok : lOk (l ++ [x])) (hb : w.heap.size ≤ b) (hb1 : b < w1.heap.size) (hw : Below w.heap.size w w1) (hd : HBf w1 b (.slice (some ⟨b, 0, none⟩) x.1.data.length cap) x.1.data)
    (hgr : w1.grownBy Z v.ownBlock) (hown : Z.ownsRow B 68 67 (.slice (some ⟨g, 0, none⟩) (l.length + 1) cap2) (l.length + 1) (lC l ds ++ aL x (.slice (some ⟨b, 0, none⟩) x.1.data.length cap))) (hg : v.ownBlock = some g ∨ w1.heap.size ≤ g) :
    LO B Z (.slice (some ⟨g, 0, none⟩) (l.length + 1) cap2) (l ++ [x]) (ds ++ [.slice (some ⟨b, 0, none⟩) x.1.data.length cap]) := by
  have hs1 := hw.size
  have hsZ := hgr.size
  have hvw : ∀ k, v.ownBlock = some k → k < w.heap.size := fun k e => (h.own.lt k e).2
  refine ⟨hok, by simp [h.len], ?_, fun i e d he hd' => ?_, fun i j d e k hij hi hj hdk hek => ?_⟩
  · rw [List.length_append, List.length_singleton, lC_snoc _ _ _ _ h.len]
    exact hown
  · rcases Nat.lt_or_ge i l.length with hi | hi
    · rw [List.getElem?_append_left hi] at he
      rw [List.getElem?_append_left (by rw [h.len]; exact hi)] at hd'
      obtain ⟨b', c', e1, h1, h2, h3, h4⟩ := h.dat i e d he hd'
      refine ⟨b', c', e1, h1, by omega, ?_, ?_⟩
      · intro hc
        have hgb : g = b' := by simpa [Value.ownBlock] using hc
        rcases hg with hg | hg
        · exact h3 (by rw [hg, hgb])
        · omega
      · exact hbf_keep (hbf_keep h4 (hw.block b' h2)) (hgr.block b' (by omega) (fun hk => h3 hk.symm))
    · rw [List.getElem?_append_right hi] at he
      rw [List.getElem?_append_right (by rw [h.len]; exact hi), h.len] at hd'
      have hil : i - l.length = 0 := by
        have := (List.getElem?_eq_some_iff.1 he).1
        simp at this; omega
      rw [hil] at he hd'
      simp only [List.getElem?_cons_zero, Option.some.injEq] at he hd'
      subst he hd'
      refine ⟨b, cap, rfl, by omega, by omega, ?_, hbf_keep hd (hgr.block b hb1 (fun hk => ?_))⟩
      · intro hc
        have hgb : g = b := by simpa [Value.ownBlock] using hc
        rcases hg with hg | hg
        · have := hvw g hg; omega
        · omega
      · have := hvw b hk.symm
        omega
  · have hjl : j < (ds ++ [Value.slice (some ⟨b, 0, none⟩) x.1.data.length cap]).length := (List.getElem?_eq_some_iff.1 hj).1
    rw [List.length_append, List.length_singleton, h.len] at hjl
    rw [List.getElem?_append_left (by rw [h.len]; omega)] at hi
    rcases Nat.lt_or_ge j ds.length with hjd | hjd
    · rw [List.getElem?_append_left hjd] at hj
      exact h.apart i j d e k hij hi hj hdk hek
    · rw [List.getElem?_append_right hjd, show j - ds.length = 0 by rw [h.len]; rw [h.len] at hjd; omega] at hj
      have he : Value.slice (some ⟨b, 0, none⟩) x.1.data.length cap = e := by simpa using hj
      rw [← he] at hek
      have hkb : b = k := by simpa [Value.ownBlock] using hek
      have hil : i < l.length := by rw [h.len] at hjd; omega
      obtain ⟨b', c', e1, _, h2, _⟩ := h.dat i l[i] d (List.getElem?_eq_getElem hil) hi
      rw [e1] at hdk
      have hkb' : b' = k := by simpa [Value.ownBlock] using hdk
      omega
def LogEnd (w : World) (l : List (Qn × List UInt8)) (e : Ending) (w' : World) : Prop := ∃ v ds, e = .returned v ∧ LO w.heap.size w' v l ds ∧ Below w.heap.size w w'
theorem wpListZ_bslice {ops : Array Oper} {rest : List Oper} {o : Oper} {a : Act} {Q : Exit → Act → World → Prop} {w w' : World} (hgd : o.guard = none) (t : TypeId) (n : Nat) (parts : Array (Nat × Operand)) (ho : o.op = .buildSlice t n parts) (vals : Array (Nat × Value)) (v : Value) (hp : (parts.map fun (i, x) => (i, a.eval x)) = vals)
    (hr : (Instr.buildSlice t n vals).run Tryz.prog w = .ok v w') (h : wpList Tryz.prog ops Q rest (a.put o.dst v) w') : wpList Tryz.prog ops Q (o :: rest) a w := by
  refine wpList_plain hgd fun K' hK' => ?_
  unfold Oper.wp execOp
  simp only [ho, Sem.run_bind, hp, hr, Result.andThen_ok]
  exact hK' _ _ h
theorem wpListZ_store {ops : Array Oper} {rest : List Oper} {o : Oper} {a : Act} {w : World} {Q : Exit → Act → World → Prop} (hgd : o.guard = none) (ty : TypeId) (x y : Operand) (ho : o.op = .store ty x y)
    (g : Nat) (cells : Array Value) (hx : a.eval x = .pointer (some ⟨g, 0, none⟩)) (hy : a.eval y = .agg cells)
    (t : TypeId) (old : Array Value) (hg : w.heap[g]? = some (.cells old t (0, 0))) (hi : (Tryz.prog.info? ty).map (·.size) = some cells.size)
    (hold : old.size = cells.size) (h1 : cells.all (·.oneCell') = true)
    (h : ∀ W', W' = w.setRow g cells → wpList Tryz.prog ops Q rest (a.put o.dst undef) W') : wpList Tryz.prog ops Q (o :: rest) a w :=
  wpList_store_row hgd ty x y ho g cells hx hy t old hg hi hold h1 (h _ rfl)
set_option maxHeartbeats 4000000 in
set_option maxRecDepth 100000 in
theorem plog_any {B og mb : Nat} {S : Nat → Prop} {w : World} {o : Pra} {dv ov : Value} (ho : PO B og mb S w o dv ov) (hll : o.log.length < 1000000) :
    Calls Tryz.prog 11 #[.pointer (some ⟨og, 0, none⟩)] w fun e w' => LogEnd w o.log e w' := by
  obtain ⟨c0, c33, c34, hc, cf⟩ := ho.cells
  obtain ⟨p, cap, hov⟩ := ho.ordV
  rw [hov] at c34
  have HNN : Hid _ := none_no og mb w hc
  have HO : Hid _ := ho
  have HOV : Hid _ := hov
  have hog := row_lt ho.row
  have hzk := fun W => zero_kq W
  obtain ⟨ZK, hZK⟩ : ∃ A, A = zKq := ⟨_, rfl⟩
  rw [← hZK] at hzk
  have HZK : Hid (ZK.size = 35) := by show _ = _; rw [hZK]; kernel_rfl
  obtain ⟨i0, hi, hz0, hz1, hz2⟩ := info_parts infoAk
  generalize hN : o.log.length = N at *
  have HN : Hid _ := hN
  have HC34 : Hid _ := c34
  clear c0 c33 hc cf ho hov hZK hN
  go_enter Tryz.func11, Tryz.ntmps11
  go_wp2_with (first
    | (go_at_call 22; refine Calls.mono HNN.out ?_; rintro e w1 ⟨rfl, hw1⟩; rw [hw1]; clear hw1 w1)
    | (refine wpList_make_own _ rfl _ _ 40 rfl w.heap.size 68 i0 (.agg zAk.toArray) 67 Tryz.underlying40 hi hz0 hz1 .i64 .i64 _ N rfl rfl rfl (by rw [hz2]; omega) (by unfold maxLen; omega) (Nat.le_refl _) ?_; intro w2 hown2 hgr2; have hc2 := hgr2.cell HC34.out (by simp); have HOW2 : Hid (w2.ownsRow w.heap.size 68 67 (.slice (some ⟨w.heap.size, 0, none⟩) 0 N) 0 []) := hown2; have HB2 : Hid (Below w.heap.size w w2) := (Below.refl _ w).grown hgr2 (Nat.le_refl _) (by simp); clear hgr2 hown2))
  go_loopw [3, 19] (fun v i wr => ∃ (k : Nat) (ds : List Value), k ≤ N ∧ i = .int .i64 k ∧ LO w.heap.size wr v (o.log.take k) ds ∧ Below w.heap.size w wr) (fun _ i _ => N - (intOf i).toNat)
  case atStart => exact ⟨0, [], Nat.zero_le _, rfl, by rw [List.take_zero]; exact LO.nil _ _ _ HOW2.out, HB2.out⟩
  case round =>
    obtain ⟨k, ds, hk, rfl, hlo, hb⟩ := hrel
    have HLO : Hid _ := hlo
    have HBR : Hid _ := hb
    clear hlo hb
    by_cases hlt : k < N
    · have hkI : (k : Int) < (N : Int) := by omega
      have hlt' : k < o.log.length := by rw [HN.out]; exact hlt
      obtain ⟨x, hx⟩ : ∃ x, o.log[k]? = some x := ⟨_, List.getElem?_eq_getElem hlt'⟩
      obtain ⟨g, cap', hov', hSg, hrg⟩ := HO.out.ordRow hx
      have hpg : p = some ⟨g, 0, none⟩ := by have := HOV.out.symm.trans hov'; simp at this; exact this.1
      have hkx := (HO.out.ok.all x (List.mem_of_getElem? hx))
      have HRG : Hid (wr.rangeAt g (k * 35) (kL x.1)) := rangeAt_below hrg HBR.out
      have HKI : Hid _ := info35k (kL x.1) (kL_len x.1 hkx.1.key)
      have HKS : Hid ((kL x.1).toArray.size = 35) := by show _ = _; rw [List.size_toArray]; exact kL_len x.1 hkx.1.key
      have HK1 : Hid _ := kL_onea x.1
      have HCALL : Hid (∀ X, Below w.heap.size w X → Calls Tryz.prog 23 #[.pointer (some ⟨og, 0, none⟩), .agg (kL x.1).toArray] X fun e w' => AskedEnd X x e w') := fun X hX => by
        have h1 := HO.out.below hX
        have h2 := asked_any og mb o.log x.1 x.2 X h1.cells.2.2.2.1 h1.ok h1.map hkx.1 (fnd_at h1.ok.once hx)
        exact h2
      have HTK : Hid (o.log.take (k + 1) = o.log.take k ++ [x]) := by
        show _ = _
        rw [List.take_succ_eq_append_getElem hlt']
        congr 1
        rw [List.getElem?_eq_getElem hlt'] at hx
        simpa using hx
      have HTL : Hid ((o.log.take k).length = k) := by show _ = _; rw [List.length_take]; omega
      have HXK : Hid _ := hkx
      have hsr := HBR.out.size
      subst hpg
      obtain ⟨KL, hKL⟩ : ∃ L, L = kL x.1 := ⟨_, rfl⟩
      rw [← hKL] at HRG HKI HKS HK1 HCALL
      have HNW : Hid ((wr.alloc (.cells ZK 63 (0, 0))).heap[wr.heap.size]? = some (.cells ZK 63 (0, 0))) := heap_alloc_new _ _
      clear hx hov' hrg hkx hKL hlt' hSg
      go_wp2_with (first
        | (refine wpList_load_mid rfl 63 (.tmp 21) rfl g (k * 35) rfl KL _ HRG.out Tryz.underlying63 rfl HKI.out ?_)
        | (refine wpListZ_store rfl 63 _ _ rfl wr.heap.size KL.toArray rfl rfl 63 ZK HNW.out (info35ka _ HKS.out) (HZK.out.trans HKS.out.symm) HK1.out ?_; intro X1 hX1; have HX1 : Hid (X1.rangeAt wr.heap.size 0 KL) := (by rw [hX1]; exact rangeAt_row (setRow_heap _ _ _ _ _ _ HNW.out)); have HBX : Hid (Below wr.heap.size wr X1) := (by rw [hX1]; exact below_setRow ((Below.refl _ _).alloc (Nat.le_refl _) _) (Nat.le_refl _) _); clear hX1)
        | (refine wpList_load_mid rfl 63 (.tmp 5) rfl wr.heap.size 0 rfl KL _ HX1.out Tryz.underlying63 rfl HKI.out ?_)
        | (go_at_call 23; fail))
      refine Calls.mono (HCALL.out X1 (HBR.out.trans (HBX.out.mono hsr))) ?_
      rintro e W3 ⟨b, cb, rfl, hb1, hb2, hd3, hbw3⟩
      have hAN : (aL x (.slice (some ⟨b, 0, none⟩) x.1.data.length cb)).length = 67 := aL_len x _ HXK.out.1.key HXK.out.2
      have HA1 : Hid _ := aL_one x (some ⟨b, 0, none⟩) x.1.data.length cb
      have HAN : Hid _ := hAN
      have HBS : Hid _ := fun W => bs_asked W (aL x (.slice (some ⟨b, 0, none⟩) x.1.data.length cb)) hAN
      have HSE : Hid (x = (x.1, x.2)) := rfl
      have hxs := HBX.out.size
      have hb03 : Below wr.heap.size wr W3 := HBX.out.trans (hbw3.mono hxs)
      have HBW3 : Hid _ := hb03
      have HD3 : Hid _ := hd3
      have hs3 := hb03.size
      have hbr : wr.heap.size ≤ b := by omega
      obtain ⟨AL, hAL⟩ : ∃ L, L = aL x (.slice (some ⟨b, 0, none⟩) x.1.data.length cb) := ⟨_, rfl⟩
      rw [← hAL] at HA1 HAN HBS ⊢
      have HAL : Hid _ := hAL
      have HOWN : Hid ((W3.alloc (.cells AL.toArray 68 (0, 0))).ownsRow w.heap.size 68 67 u3 k (lC (o.log.take k) ds)) := by
        have h := HLO.out.own
        rw [HTL.out] at h
        exact (own_keep h (fun j _ hj => HBW3.out.block j hj)).alloc _
      have HNEW : Hid (∀ j u, AL[j]? = some u → (W3.alloc (.cells AL.toArray 68 (0, 0))).cell? ((⟨W3.heap.size, 0, none⟩ : Addr).add j) = some u) := fun j u hu => by
        have h := rangeAt_row (heap_alloc_new W3 (.cells AL.toArray 68 (0, 0))) j u hu
        rw [add_none]; exact h
      clear hAL hAN hb03 hd3 hbw3
      go_wp2_with (first
        | (refine wpListZ_bslice rfl 40 1 _ rfl _ _ (by simp; first | done | rfl) (HBS.out _) ?_)
        | (at_builtin; go_loud (refine wpList_append_lies _ rfl (.tmp 23) (.tmp 27) 40 rfl w.heap.size 68 i0 (.agg zAk.toArray) 67 104 Tryz.underlying40 hi hz0 hz1 hz2 rfl (by decide) u3 k (lC (o.log.take k) ds) rfl HOWN.out ⟨W3.heap.size, 0, none⟩ 1 1 AL rfl HAN.out HNEW.out HA1.out (by decide) (by unfold maxLen; omega) (by omega) (by simp; omega) (W3.heap.size + 1) (by simp) ?_; intro g2 cap3 Z hown4 hgr4 hgl4 hgZ4; have HO4 : Hid (Z.ownsRow w.heap.size 68 67 (.slice (some ⟨g2, 0, none⟩) (k + 1) cap3) (k + 1) (lC (o.log.take k) ds ++ AL)) := hown4; have HG4 : Hid _ := hgr4; have HL4 : Hid _ := hgl4; clear hown4 hgr4 hgl4)))
      have HREL : Hid (LO w.heap.size Z (.slice (some ⟨g2, 0, none⟩) (k + 1) cap3) (o.log.take (k + 1)) (ds ++ [.slice (some ⟨b, 0, none⟩) x.1.data.length cb]) ∧ Below w.heap.size w Z) := by
        have hgr : W3.grownBy Z u3.ownBlock := (World.grownBy_alloc W3 _ _).trans HG4.out
        have hok : lOk (o.log.take k ++ [x]) := by rw [← HTK.out]; exact HO.out.ok.take _
        have hm := LO.more (Z := Z) (g := g2) (cap2 := cap3) HLO.out hsr hok hbr hb2 HBW3.out HD3.out hgr (by rw [HTL.out, ← HAL.out]; exact HO4.out) (HL4.out.imp id (fun h => by omega))
        rw [HTL.out] at hm
        rw [HTK.out]
        refine ⟨hm, ?_⟩
        have hB3 : Below w.heap.size w W3 := HBR.out.trans (HBW3.out.mono hsr)
        exact hB3.grown hgr hB3.size (fun j hj => (HLO.out.own.lt j hj).1)
      clear HO4 HG4 HL4 HNEW HOWN HAL HBS HA1 HAN HD3 HBW3
      go_roundw
      case rel => exact ⟨k + 1, _, by omega, by go_num, HREL.out.1, HREL.out.2⟩
      case measure => simp [intOf]; omega
    · have hke : k = N := by omega
      subst hke
      have hkI : ¬ (k : Int) < (k : Int) := by omega
      go_wp2
      go_ret
      refine ⟨_, ds, rfl, ?_, HBR.out⟩
      have := HLO.out
      rw [← HN.out, List.take_length] at this
      exact this
end Go.Proofs.YtbmmibmfjhehhaaGreat.R5

/- Contract of ref 5's SameLog. -/
namespace Go.Proofs.YtbmmibmfjhehhaaGreat.R5
open scoped Classical
open Go.RowKit

def HLr (w : World) (v : Value) (l : List (Qn × List UInt8)) : Prop :=
  ∃ p cap, v = .slice p l.length cap ∧ ∀ i e, l[i]? = some e → e.1.key.length = 32 ∧ e.2.length = 32 ∧ ∃ g o d, p = some ⟨g, o, none⟩ ∧ w.rangeAt g (o + i * 67) (qL e.1 d) ∧ w.rangeAt g (o + i * 67 + 35) (e.2.map B8) ∧ HB w d e.1.data
theorem ret_bool' {a b : Bool} (h : a = b) : Ending.returned (.bool a) = .returned (.bool b) := by rw [h]
theorem hlr_of {B : Nat} {w : World} {v : Value} {l : List (Qn × List UInt8)} {lds : List Value} (h : HLg B w v l lds) : HLr w v l := by
  obtain ⟨p, cap, e1, hr⟩ := hlg_form h
  refine ⟨p, cap, e1, fun i e he => ?_⟩
  have hi : i < l.length := (List.getElem?_eq_some_iff.1 he).1
  obtain ⟨d, hd⟩ : ∃ d, lds[i]? = some d := ⟨_, List.getElem?_eq_getElem (by rw [h.2.1]; exact hi)⟩
  have hk := h.1 e (List.mem_of_getElem? he)
  obtain ⟨g, h1, h2, h3, h4⟩ := hr i e _ he hd
  exact ⟨hk.1, hk.2, g, 0, d, h1, by rw [Nat.zero_add]; exact h3, by rw [Nat.zero_add]; exact h4, h.2.2.2 i e _ he hd⟩
theorem hlr_below {w w' : World} {v : Value} {l : List (Qn × List UInt8)} (h : HLr w v l) (hb : Below w.heap.size w w') : HLr w' v l := by
  obtain ⟨p, cap, e1, hr⟩ := h
  refine ⟨p, cap, e1, fun i e he => ?_⟩
  obtain ⟨h1, h2, g, o, d, h3, h4, h5, h6⟩ := hr i e he
  exact ⟨h1, h2, g, o, d, h3, rangeAt_below h4 hb, rangeAt_below h5 hb, h6.below hb⟩

set_option maxHeartbeats 8000000 in
set_option maxRecDepth 100000 in
theorem sameLog_any (va vb : Value) (la lb : List (Qn × List UInt8)) (w : World) (hla : la.length < 1000000) (hlb : lb.length < 1000000) (ha : HLr w va la) (hb : HLr w vb lb) :
    Calls Tryz.prog 13 #[va, vb] w fun e w' => e = .returned (.bool (decide (la = lb))) ∧ Below w.heap.size w w' := by
  obtain ⟨pa, ca, rfl, hra⟩ := ha
  obtain ⟨pb, cb, rfl, hrb⟩ := hb
  have HRA : Hid _ := hra
  have HRB : Hid _ := hrb
  clear hra hrb
  by_cases hl : la.length = lb.length
  · have hq : ((la.length : Int) != (lb.length : Int)) = false := by rw [bne_eq_false_iff_eq]; omega
    have HLN : Hid _ := hl
    rw [← hl]
    rw [← hl] at hq
    clear hl
    obtain ⟨N, hN⟩ : ∃ N, N = la.length := ⟨_, rfl⟩
    rw [← hN] at hq hla ⊢
    have HN : Hid _ := hN
    clear hN hq
    go_enter Tryz.func13, Tryz.ntmps13
    go_wp2
    go_loopw [5] (fun i wr => ∃ k : Nat, k ≤ N ∧ i = .int .i64 k ∧ la.take k = lb.take k ∧ Below w.heap.size w wr) (fun i _ => N - (intOf i).toNat)
    case atStart => exact ⟨0, Nat.zero_le _, rfl, by simp, Below.refl _ _⟩
    case round =>
      obtain ⟨k, hk, rfl, hek, hb⟩ := hrel
      have HEK : Hid _ := hek
      clear hek
      by_cases hlt : k < N
      · have hkI : (k : Int) < (N : Int) := by omega
        have h1 : k < la.length := by rw [← HN.out]; exact hlt
        have h2 : k < lb.length := by rw [← HLN.out]; exact h1
        have hA := List.getElem?_eq_getElem h1
        have hBb := List.getElem?_eq_getElem h2
        have hta : la.take (k + 1) = la.take k ++ [la[k]] := List.take_succ_eq_append_getElem h1
        have htb : lb.take (k + 1) = lb.take k ++ [lb[k]] := List.take_succ_eq_append_getElem h2
        have hstep : la[k] = lb[k] → la.take (k + 1) = lb.take (k + 1) := fun h => by rw [hta, htb, HEK.out, h]
        have hbad : la[k] ≠ lb[k] → la ≠ lb := fun h e => h (by subst e; rfl)
        generalize la[k] = ea at *
        generalize lb[k] = eb at *
        obtain ⟨ka, kb', ga, oa, da, hpa, ra1, ra2, ra3⟩ := HRA.out k ea hA
        obtain ⟨ja, jb', gb, ob, db, hpb, rb1, rb2, rb3⟩ := HRB.out k eb hBb
        subst hpa hpb
        obtain ⟨a1, a2⟩ := ea
        obtain ⟨b1, b2⟩ := eb
        simp only at *
        have HA : Hid (HQ w (.agg (qL a1 da).toArray) a1) := ⟨ka, da, rfl, ra3⟩
        have HB' : Hid (HQ w (.agg (qL b1 db).toArray) b1) := ⟨ja, db, rfl, rb3⟩
        have HIA : Hid _ := info35 (qL a1 da) (qL_len a1 da ka)
        have HIB : Hid _ := info35 (qL b1 db) (qL_len b1 db ja)
        have HI2 : Hid _ := info32 (a2.map B8) (by rw [List.length_map]; exact kb')
        have HJ2 : Hid _ := info32 (b2.map B8) (by rw [List.length_map]; exact jb')
        have HEQ : Hid (∀ W, (Op.equalIn 10000 23 (.agg (a2.map B8).toArray) (.agg (b2.map B8).toArray)).run Tryz.prog W = .ok (a2 == b2) W) := fun W => run_equalIn_bytes W 9998 23 5 32 Tryz.underlying23 Tryz.underlying5 size_u8 a2 b2 kb' jb'
        have HRa1 : Hid _ := ra1
        have HRa2 : Hid _ := ra2
        have HRb1 : Hid _ := rb1
        have HRb2 : Hid _ := rb2
        have HST : Hid _ := hstep
        have HBD : Hid _ := hbad
        have HUQ : Hid _ := Tryz.underlying66
        have HUD : Hid _ := Tryz.underlying23
        have HBd : Hid (Below w.heap.size w wr.drew) := hb.drew
        clear hstep hbad hta htb hA hBb ra1 ra2 ra3 rb1 rb2 rb3 h1 h2 HRA HRB ka ja kb' jb' hb
        generalize qL a1 da = QA at *
        generalize qL b1 db = QB at *
        by_cases hq1 : a1 = b1
        · have HD : Hid (decide (a1 = b1) = true) := decide_eq_true hq1
          have HQE : Hid _ := hq1
          clear hq1
          by_cases hq2 : a2 = b2
          · have HR : Hid ((a2 == b2) = true) := by show _ = _; simp [hq2]
            have HT : Hid (la.take (k + 1) = lb.take (k + 1)) := HST.out (by rw [HQE.out, hq2])
            clear hq2
            rw [HR.out] at HEQ
            go_wp2
            refine wp_region_held_drew (S := fun w' => Below w.heap.size w w') (by kernel_rfl) HBd.out (fun hHeld => ?_)
            generalize wr.drew = W at *
            refine wpAnyH_take (i := 0) (oi := ⟨some 17, .move (.tmp 0), 40, _, #[], none⟩) (v := .slice (some ⟨ga, oa, none⟩) N ca) rfl (by kernel_rfl) (by kernel_rfl) (by kernel_rfl) (fun _ _ _ h => h) (Or.inl ⟨by rfl, fun w' hw' => ?_⟩) hHeld ?_
            · first | (go_simp; done) | (go_simp; rfl)
            try simp only [Act.put, qT, q0, qS]
            refine wpAnyH_take (i := 1) (oi := ⟨some 18, .move (.tmp 5), 3, _, #[], none⟩) (v := .int .i64 (k : Int)) rfl (by kernel_rfl) (by kernel_rfl) (by kernel_rfl) (fun _ _ _ h => h) (Or.inl ⟨by rfl, fun w' hw' => ?_⟩) hHeld ?_
            · first | (go_simp; done) | (go_simp; rfl)
            try simp only [Act.put, qT, q0, qS]
            refine wpAnyH_take (i := 2) (oi := ⟨some 19, .indexAddr 40 (.tmp 17) (.tmp 18), 0, _, #[⟨0, .data⟩, ⟨1, .data⟩], none⟩) (v := .pointer (some ⟨ga, oa + k * 67, none⟩)) rfl (by kernel_rfl) (by kernel_rfl) (by kernel_rfl) (fun _ _ _ h => h) (Or.inl ⟨by rfl, fun w' hw' => ?_⟩) hHeld ?_
            · first | (go_simp; done) | (go_simp; rfl)
            try simp only [Act.put, qT, q0, qS]
            refine wpAnyH_take (i := 3) (oi := ⟨some 20, .fieldAddr 68 (.tmp 19) 0, 0, _, #[⟨2, .data⟩], none⟩) (v := .pointer (some ⟨ga, oa + k * 67, none⟩)) rfl (by kernel_rfl) (by kernel_rfl) (by kernel_rfl) (fun _ _ _ h => h) (Or.inl ⟨by rfl, fun w' hw' => ?_⟩) hHeld ?_
            · first | (go_simp; done) | (go_simp; rfl)
            try simp only [Act.put, qT, q0, qS]
            refine wpAnyH_take (i := 4) (oi := ⟨some 21, .load 66 (.tmp 20), 66, _, #[⟨3, .data⟩], none⟩) rfl (by kernel_rfl) (by kernel_rfl) (by kernel_rfl) (fun _ _ _ h => h) (yieldsIf_load_mid (by rfl) 66 (.tmp 20) rfl (ga) (oa + k * 67) rfl (QA) _ (fun _ h => rangeAt_below HRa1.out h) HUQ.out rfl HIA.out) hHeld ?_
            try simp only [Act.put, qT, q0, qS]
            refine wpAnyH_take (i := 5) (oi := ⟨some 22, .move (.tmp 1), 40, _, #[], none⟩) (v := .slice (some ⟨gb, ob, none⟩) N cb) rfl (by kernel_rfl) (by kernel_rfl) (by kernel_rfl) (fun _ _ _ h => h) (Or.inl ⟨by rfl, fun w' hw' => ?_⟩) hHeld ?_
            · first | (go_simp; done) | (go_simp; rfl)
            try simp only [Act.put, qT, q0, qS]
            refine wpAnyH_take (i := 6) (oi := ⟨some 23, .move (.tmp 5), 3, _, #[], none⟩) (v := .int .i64 (k : Int)) rfl (by kernel_rfl) (by kernel_rfl) (by kernel_rfl) (fun _ _ _ h => h) (Or.inl ⟨by rfl, fun w' hw' => ?_⟩) hHeld ?_
            · first | (go_simp; done) | (go_simp; rfl)
            try simp only [Act.put, qT, q0, qS]
            refine wpAnyH_take (i := 7) (oi := ⟨some 24, .indexAddr 40 (.tmp 22) (.tmp 23), 0, _, #[⟨5, .data⟩, ⟨6, .data⟩], none⟩) (v := .pointer (some ⟨gb, ob + k * 67, none⟩)) rfl (by kernel_rfl) (by kernel_rfl) (by kernel_rfl) (fun _ _ _ h => h) (Or.inl ⟨by rfl, fun w' hw' => ?_⟩) hHeld ?_
            · first | (go_simp; done) | (go_simp; rfl)
            try simp only [Act.put, qT, q0, qS]
            refine wpAnyH_take (i := 8) (oi := ⟨some 25, .fieldAddr 68 (.tmp 24) 0, 0, _, #[⟨7, .data⟩], none⟩) (v := .pointer (some ⟨gb, ob + k * 67, none⟩)) rfl (by kernel_rfl) (by kernel_rfl) (by kernel_rfl) (fun _ _ _ h => h) (Or.inl ⟨by rfl, fun w' hw' => ?_⟩) hHeld ?_
            · first | (go_simp; done) | (go_simp; rfl)
            try simp only [Act.put, qT, q0, qS]
            refine wpAnyH_take (i := 9) (oi := ⟨some 26, .load 66 (.tmp 25), 66, _, #[⟨8, .data⟩], none⟩) rfl (by kernel_rfl) (by kernel_rfl) (by kernel_rfl) (fun _ _ _ h => h) (yieldsIf_load_mid (by rfl) 66 (.tmp 25) rfl (gb) (ob + k * 67) rfl (QB) _ (fun _ h => rangeAt_below HRb1.out h) HUQ.out rfl HIB.out) hHeld ?_
            try simp only [Act.put, qT, q0, qS]
            refine wpAnyH_ready (rs := [10]) (by kernel_rfl) (by simp) ?_
            refine AllReadyH.cons (o := { dst := some 27, op := .call { callee := Go.Callee.value (.func 27), args := #[.tmp 21, .tmp 26], argTypes := #[66, 66] }, type := 4, pos := _, after := #[⟨4, .data⟩, ⟨9, .data⟩], guard := none }) rfl (fun K hK => ?_) AllReadyH.nil
            rw [if_pos (by rfl)]
            go_wp2_with fail
            refine (qsame_any (.agg QA.toArray) (.agg QB.toArray) a1 b1 _ (hq_below HA.out hHeld) (hq_below HB'.out hHeld)).mono ?_
            rintro ex W2 ⟨rfl, hb2⟩
            rw [HD.out]
            have hHeld2 : Below w.heap.size w W2 := hHeld.trans (hb2.mono hHeld.size)
            clear hb2
            refine hK.out _ _ hHeld2 (fun _ => ?_)
            clear hK K
            try simp only [Act.put, qT, q0, qS]
            have hHeld := hHeld2
            refine wpAnyH_take (i := 11) (oi := ⟨some 28, .unOp .not 4 (.tmp 27), 4, _, #[⟨10, .data⟩], none⟩) (v := .bool false) rfl (by kernel_rfl) (by kernel_rfl) (by kernel_rfl) (fun _ _ _ h => h) (Or.inl ⟨by rfl, fun w' hw' => ?_⟩) hHeld ?_
            · first | (go_simp; done) | (go_simp; rfl)
            try simp only [Act.put, qT, q0, qS]
            refine wpAnyH_take (i := 12) (oi := ⟨some 29, .move (.tmp 28), 4, _, #[⟨11, .data⟩, ⟨10, .chain⟩], none⟩) (v := .bool false) rfl (by kernel_rfl) (by kernel_rfl) (by kernel_rfl) (fun _ _ _ h => h) (Or.inl ⟨by rfl, fun w' hw' => ?_⟩) hHeld ?_
            · first | (go_simp; done) | (go_simp; rfl)
            try simp only [Act.put, qT, q0, qS]
            refine wpAnyH_take (i := 13) (oi := ⟨some 30, .move (.tmp 0), 40, _, #[⟨12, .guard⟩], some (12, false)⟩) (v := .slice (some ⟨ga, oa, none⟩) N ca) rfl (by kernel_rfl) (by kernel_rfl) (by kernel_rfl) (fun _ _ _ h => h) (Or.inl ⟨by rfl, fun w' hw' => ?_⟩) hHeld ?_
            · first | (go_simp; done) | (go_simp; rfl)
            try simp only [Act.put, qT, q0, qS]
            refine wpAnyH_take (i := 14) (oi := ⟨some 31, .move (.tmp 5), 3, _, #[⟨12, .guard⟩], some (12, false)⟩) (v := .int .i64 (k : Int)) rfl (by kernel_rfl) (by kernel_rfl) (by kernel_rfl) (fun _ _ _ h => h) (Or.inl ⟨by rfl, fun w' hw' => ?_⟩) hHeld ?_
            · first | (go_simp; done) | (go_simp; rfl)
            try simp only [Act.put, qT, q0, qS]
            refine wpAnyH_take (i := 15) (oi := ⟨some 32, .indexAddr 40 (.tmp 30) (.tmp 31), 0, _, #[⟨13, .data⟩, ⟨14, .data⟩, ⟨12, .guard⟩], some (12, false)⟩) (v := .pointer (some ⟨ga, oa + k * 67, none⟩)) rfl (by kernel_rfl) (by kernel_rfl) (by kernel_rfl) (fun _ _ _ h => h) (Or.inl ⟨by rfl, fun w' hw' => ?_⟩) hHeld ?_
            · first | (go_simp; done) | (go_simp; rfl)
            try simp only [Act.put, qT, q0, qS]
            refine wpAnyH_take (i := 16) (oi := ⟨some 33, .fieldAddr 68 (.tmp 32) 1, 0, _, #[⟨15, .data⟩, ⟨12, .guard⟩], some (12, false)⟩) (v := .pointer (some ⟨ga, oa + k * 67 + 35, none⟩)) rfl (by kernel_rfl) (by kernel_rfl) (by kernel_rfl) (fun _ _ _ h => h) (Or.inl ⟨by rfl, fun w' hw' => ?_⟩) hHeld ?_
            · first | (go_simp; done) | (go_simp; rfl)
            try simp only [Act.put, qT, q0, qS]
            refine wpAnyH_take (i := 17) (oi := ⟨some 34, .load 23 (.tmp 33), 23, _, #[⟨16, .data⟩, ⟨12, .guard⟩], some (12, false)⟩) rfl (by kernel_rfl) (by kernel_rfl) (by kernel_rfl) (fun _ _ _ h => h) (yieldsIf_load_mid (by rfl) 23 (.tmp 33) rfl (ga) (oa + k * 67 + 35) rfl (a2.map B8) _ (fun _ h => rangeAt_below HRa2.out h) HUD.out rfl HI2.out) hHeld ?_
            try simp only [Act.put, qT, q0, qS]
            refine wpAnyH_take (i := 18) (oi := ⟨some 35, .move (.tmp 1), 40, _, #[⟨12, .guard⟩], some (12, false)⟩) (v := .slice (some ⟨gb, ob, none⟩) N cb) rfl (by kernel_rfl) (by kernel_rfl) (by kernel_rfl) (fun _ _ _ h => h) (Or.inl ⟨by rfl, fun w' hw' => ?_⟩) hHeld ?_
            · first | (go_simp; done) | (go_simp; rfl)
            try simp only [Act.put, qT, q0, qS]
            refine wpAnyH_take (i := 19) (oi := ⟨some 36, .move (.tmp 5), 3, _, #[⟨12, .guard⟩], some (12, false)⟩) (v := .int .i64 (k : Int)) rfl (by kernel_rfl) (by kernel_rfl) (by kernel_rfl) (fun _ _ _ h => h) (Or.inl ⟨by rfl, fun w' hw' => ?_⟩) hHeld ?_
            · first | (go_simp; done) | (go_simp; rfl)
            try simp only [Act.put, qT, q0, qS]
            refine wpAnyH_take (i := 20) (oi := ⟨some 37, .indexAddr 40 (.tmp 35) (.tmp 36), 0, _, #[⟨18, .data⟩, ⟨19, .data⟩, ⟨12, .guard⟩], some (12, false)⟩) (v := .pointer (some ⟨gb, ob + k * 67, none⟩)) rfl (by kernel_rfl) (by kernel_rfl) (by kernel_rfl) (fun _ _ _ h => h) (Or.inl ⟨by rfl, fun w' hw' => ?_⟩) hHeld ?_
            · first | (go_simp; done) | (go_simp; rfl)
            try simp only [Act.put, qT, q0, qS]
            refine wpAnyH_take (i := 21) (oi := ⟨some 38, .fieldAddr 68 (.tmp 37) 1, 0, _, #[⟨20, .data⟩, ⟨12, .guard⟩], some (12, false)⟩) (v := .pointer (some ⟨gb, ob + k * 67 + 35, none⟩)) rfl (by kernel_rfl) (by kernel_rfl) (by kernel_rfl) (fun _ _ _ h => h) (Or.inl ⟨by rfl, fun w' hw' => ?_⟩) hHeld ?_
            · first | (go_simp; done) | (go_simp; rfl)
            try simp only [Act.put, qT, q0, qS]
            refine wpAnyH_take (i := 22) (oi := ⟨some 39, .load 23 (.tmp 38), 23, _, #[⟨21, .data⟩, ⟨12, .guard⟩], some (12, false)⟩) rfl (by kernel_rfl) (by kernel_rfl) (by kernel_rfl) (fun _ _ _ h => h) (yieldsIf_load_mid (by rfl) 23 (.tmp 38) rfl (gb) (ob + k * 67 + 35) rfl (b2.map B8) _ (fun _ h => rangeAt_below HRb2.out h) HUD.out rfl HJ2.out) hHeld ?_
            try simp only [Act.put, qT, q0, qS]
            refine wpAnyH_take (i := 23) (oi := ⟨some 40, .binOp .neq 23 (.tmp 34) (.tmp 39) 23, 4, _, #[⟨17, .data⟩, ⟨22, .data⟩, ⟨12, .guard⟩], some (12, false)⟩) (v := .bool false) rfl (by kernel_rfl) (by kernel_rfl) (by kernel_rfl) (fun _ _ _ h => h) (Or.inl ⟨by rfl, fun w' hw' => ?_⟩) hHeld ?_
            · have hqq := HEQ.out w'; first | (go_simp; done) | (go_simp; rfl)
            try simp only [Act.put, qT, q0, qS]
            refine wpAnyH_take (i := 24) (oi := ⟨some 41, .pick (.tmp 29) (.const (Go.Value.bool true)) (.tmp 40), 4, _, #[⟨12, .data⟩, ⟨23, .data⟩], none⟩) (v := .bool false) rfl (by kernel_rfl) (by kernel_rfl) (by kernel_rfl) (fun _ _ _ h => h) (Or.inl ⟨by rfl, fun w' hw' => ?_⟩) hHeld ?_
            · first | (go_simp; done) | (go_simp; rfl)
            try simp only [Act.put, qT, q0, qS]
            refine wpAnyH_done (by kernel_rfl) ?_ _
            go_wp2
            go_roundw
            case rel => exact ⟨k + 1, by omega, by go_num, HT.out, hHeld2⟩
            case measure => simp [intOf]; omega
          · have HR : Hid ((a2 == b2) = false) := by show _ = _; simp [hq2]
            have HNE : Hid (la ≠ lb) := HBD.out (fun e => hq2 (Prod.mk.inj e).2)
            clear hq2
            rw [HR.out] at HEQ
            go_wp2
            refine wp_region_held_drew (S := fun w' => Below w.heap.size w w') (by kernel_rfl) HBd.out (fun hHeld => ?_)
            generalize wr.drew = W at *
            refine wpAnyH_take (i := 0) (oi := ⟨some 17, .move (.tmp 0), 40, _, #[], none⟩) (v := .slice (some ⟨ga, oa, none⟩) N ca) rfl (by kernel_rfl) (by kernel_rfl) (by kernel_rfl) (fun _ _ _ h => h) (Or.inl ⟨by rfl, fun w' hw' => ?_⟩) hHeld ?_
            · first | (go_simp; done) | (go_simp; rfl)
            try simp only [Act.put, qT, q0, qS]
            refine wpAnyH_take (i := 1) (oi := ⟨some 18, .move (.tmp 5), 3, _, #[], none⟩) (v := .int .i64 (k : Int)) rfl (by kernel_rfl) (by kernel_rfl) (by kernel_rfl) (fun _ _ _ h => h) (Or.inl ⟨by rfl, fun w' hw' => ?_⟩) hHeld ?_
            · first | (go_simp; done) | (go_simp; rfl)
            try simp only [Act.put, qT, q0, qS]
            refine wpAnyH_take (i := 2) (oi := ⟨some 19, .indexAddr 40 (.tmp 17) (.tmp 18), 0, _, #[⟨0, .data⟩, ⟨1, .data⟩], none⟩) (v := .pointer (some ⟨ga, oa + k * 67, none⟩)) rfl (by kernel_rfl) (by kernel_rfl) (by kernel_rfl) (fun _ _ _ h => h) (Or.inl ⟨by rfl, fun w' hw' => ?_⟩) hHeld ?_
            · first | (go_simp; done) | (go_simp; rfl)
            try simp only [Act.put, qT, q0, qS]
            refine wpAnyH_take (i := 3) (oi := ⟨some 20, .fieldAddr 68 (.tmp 19) 0, 0, _, #[⟨2, .data⟩], none⟩) (v := .pointer (some ⟨ga, oa + k * 67, none⟩)) rfl (by kernel_rfl) (by kernel_rfl) (by kernel_rfl) (fun _ _ _ h => h) (Or.inl ⟨by rfl, fun w' hw' => ?_⟩) hHeld ?_
            · first | (go_simp; done) | (go_simp; rfl)
            try simp only [Act.put, qT, q0, qS]
            refine wpAnyH_take (i := 4) (oi := ⟨some 21, .load 66 (.tmp 20), 66, _, #[⟨3, .data⟩], none⟩) rfl (by kernel_rfl) (by kernel_rfl) (by kernel_rfl) (fun _ _ _ h => h) (yieldsIf_load_mid (by rfl) 66 (.tmp 20) rfl (ga) (oa + k * 67) rfl (QA) _ (fun _ h => rangeAt_below HRa1.out h) HUQ.out rfl HIA.out) hHeld ?_
            try simp only [Act.put, qT, q0, qS]
            refine wpAnyH_take (i := 5) (oi := ⟨some 22, .move (.tmp 1), 40, _, #[], none⟩) (v := .slice (some ⟨gb, ob, none⟩) N cb) rfl (by kernel_rfl) (by kernel_rfl) (by kernel_rfl) (fun _ _ _ h => h) (Or.inl ⟨by rfl, fun w' hw' => ?_⟩) hHeld ?_
            · first | (go_simp; done) | (go_simp; rfl)
            try simp only [Act.put, qT, q0, qS]
            refine wpAnyH_take (i := 6) (oi := ⟨some 23, .move (.tmp 5), 3, _, #[], none⟩) (v := .int .i64 (k : Int)) rfl (by kernel_rfl) (by kernel_rfl) (by kernel_rfl) (fun _ _ _ h => h) (Or.inl ⟨by rfl, fun w' hw' => ?_⟩) hHeld ?_
            · first | (go_simp; done) | (go_simp; rfl)
            try simp only [Act.put, qT, q0, qS]
            refine wpAnyH_take (i := 7) (oi := ⟨some 24, .indexAddr 40 (.tmp 22) (.tmp 23), 0, _, #[⟨5, .data⟩, ⟨6, .data⟩], none⟩) (v := .pointer (some ⟨gb, ob + k * 67, none⟩)) rfl (by kernel_rfl) (by kernel_rfl) (by kernel_rfl) (fun _ _ _ h => h) (Or.inl ⟨by rfl, fun w' hw' => ?_⟩) hHeld ?_
            · first | (go_simp; done) | (go_simp; rfl)
            try simp only [Act.put, qT, q0, qS]
            refine wpAnyH_take (i := 8) (oi := ⟨some 25, .fieldAddr 68 (.tmp 24) 0, 0, _, #[⟨7, .data⟩], none⟩) (v := .pointer (some ⟨gb, ob + k * 67, none⟩)) rfl (by kernel_rfl) (by kernel_rfl) (by kernel_rfl) (fun _ _ _ h => h) (Or.inl ⟨by rfl, fun w' hw' => ?_⟩) hHeld ?_
            · first | (go_simp; done) | (go_simp; rfl)
            try simp only [Act.put, qT, q0, qS]
            refine wpAnyH_take (i := 9) (oi := ⟨some 26, .load 66 (.tmp 25), 66, _, #[⟨8, .data⟩], none⟩) rfl (by kernel_rfl) (by kernel_rfl) (by kernel_rfl) (fun _ _ _ h => h) (yieldsIf_load_mid (by rfl) 66 (.tmp 25) rfl (gb) (ob + k * 67) rfl (QB) _ (fun _ h => rangeAt_below HRb1.out h) HUQ.out rfl HIB.out) hHeld ?_
            try simp only [Act.put, qT, q0, qS]
            refine wpAnyH_ready (rs := [10]) (by kernel_rfl) (by simp) ?_
            refine AllReadyH.cons (o := { dst := some 27, op := .call { callee := Go.Callee.value (.func 27), args := #[.tmp 21, .tmp 26], argTypes := #[66, 66] }, type := 4, pos := _, after := #[⟨4, .data⟩, ⟨9, .data⟩], guard := none }) rfl (fun K hK => ?_) AllReadyH.nil
            rw [if_pos (by rfl)]
            go_wp2_with fail
            refine (qsame_any (.agg QA.toArray) (.agg QB.toArray) a1 b1 _ (hq_below HA.out hHeld) (hq_below HB'.out hHeld)).mono ?_
            rintro ex W2 ⟨rfl, hb2⟩
            rw [HD.out]
            have hHeld2 : Below w.heap.size w W2 := hHeld.trans (hb2.mono hHeld.size)
            clear hb2
            refine hK.out _ _ hHeld2 (fun _ => ?_)
            clear hK K
            try simp only [Act.put, qT, q0, qS]
            have hHeld := hHeld2
            refine wpAnyH_take (i := 11) (oi := ⟨some 28, .unOp .not 4 (.tmp 27), 4, _, #[⟨10, .data⟩], none⟩) (v := .bool false) rfl (by kernel_rfl) (by kernel_rfl) (by kernel_rfl) (fun _ _ _ h => h) (Or.inl ⟨by rfl, fun w' hw' => ?_⟩) hHeld ?_
            · first | (go_simp; done) | (go_simp; rfl)
            try simp only [Act.put, qT, q0, qS]
            refine wpAnyH_take (i := 12) (oi := ⟨some 29, .move (.tmp 28), 4, _, #[⟨11, .data⟩, ⟨10, .chain⟩], none⟩) (v := .bool false) rfl (by kernel_rfl) (by kernel_rfl) (by kernel_rfl) (fun _ _ _ h => h) (Or.inl ⟨by rfl, fun w' hw' => ?_⟩) hHeld ?_
            · first | (go_simp; done) | (go_simp; rfl)
            try simp only [Act.put, qT, q0, qS]
            refine wpAnyH_take (i := 13) (oi := ⟨some 30, .move (.tmp 0), 40, _, #[⟨12, .guard⟩], some (12, false)⟩) (v := .slice (some ⟨ga, oa, none⟩) N ca) rfl (by kernel_rfl) (by kernel_rfl) (by kernel_rfl) (fun _ _ _ h => h) (Or.inl ⟨by rfl, fun w' hw' => ?_⟩) hHeld ?_
            · first | (go_simp; done) | (go_simp; rfl)
            try simp only [Act.put, qT, q0, qS]
            refine wpAnyH_take (i := 14) (oi := ⟨some 31, .move (.tmp 5), 3, _, #[⟨12, .guard⟩], some (12, false)⟩) (v := .int .i64 (k : Int)) rfl (by kernel_rfl) (by kernel_rfl) (by kernel_rfl) (fun _ _ _ h => h) (Or.inl ⟨by rfl, fun w' hw' => ?_⟩) hHeld ?_
            · first | (go_simp; done) | (go_simp; rfl)
            try simp only [Act.put, qT, q0, qS]
            refine wpAnyH_take (i := 15) (oi := ⟨some 32, .indexAddr 40 (.tmp 30) (.tmp 31), 0, _, #[⟨13, .data⟩, ⟨14, .data⟩, ⟨12, .guard⟩], some (12, false)⟩) (v := .pointer (some ⟨ga, oa + k * 67, none⟩)) rfl (by kernel_rfl) (by kernel_rfl) (by kernel_rfl) (fun _ _ _ h => h) (Or.inl ⟨by rfl, fun w' hw' => ?_⟩) hHeld ?_
            · first | (go_simp; done) | (go_simp; rfl)
            try simp only [Act.put, qT, q0, qS]
            refine wpAnyH_take (i := 16) (oi := ⟨some 33, .fieldAddr 68 (.tmp 32) 1, 0, _, #[⟨15, .data⟩, ⟨12, .guard⟩], some (12, false)⟩) (v := .pointer (some ⟨ga, oa + k * 67 + 35, none⟩)) rfl (by kernel_rfl) (by kernel_rfl) (by kernel_rfl) (fun _ _ _ h => h) (Or.inl ⟨by rfl, fun w' hw' => ?_⟩) hHeld ?_
            · first | (go_simp; done) | (go_simp; rfl)
            try simp only [Act.put, qT, q0, qS]
            refine wpAnyH_take (i := 17) (oi := ⟨some 34, .load 23 (.tmp 33), 23, _, #[⟨16, .data⟩, ⟨12, .guard⟩], some (12, false)⟩) rfl (by kernel_rfl) (by kernel_rfl) (by kernel_rfl) (fun _ _ _ h => h) (yieldsIf_load_mid (by rfl) 23 (.tmp 33) rfl (ga) (oa + k * 67 + 35) rfl (a2.map B8) _ (fun _ h => rangeAt_below HRa2.out h) HUD.out rfl HI2.out) hHeld ?_
            try simp only [Act.put, qT, q0, qS]
            refine wpAnyH_take (i := 18) (oi := ⟨some 35, .move (.tmp 1), 40, _, #[⟨12, .guard⟩], some (12, false)⟩) (v := .slice (some ⟨gb, ob, none⟩) N cb) rfl (by kernel_rfl) (by kernel_rfl) (by kernel_rfl) (fun _ _ _ h => h) (Or.inl ⟨by rfl, fun w' hw' => ?_⟩) hHeld ?_
            · first | (go_simp; done) | (go_simp; rfl)
            try simp only [Act.put, qT, q0, qS]
            refine wpAnyH_take (i := 19) (oi := ⟨some 36, .move (.tmp 5), 3, _, #[⟨12, .guard⟩], some (12, false)⟩) (v := .int .i64 (k : Int)) rfl (by kernel_rfl) (by kernel_rfl) (by kernel_rfl) (fun _ _ _ h => h) (Or.inl ⟨by rfl, fun w' hw' => ?_⟩) hHeld ?_
            · first | (go_simp; done) | (go_simp; rfl)
            try simp only [Act.put, qT, q0, qS]
            refine wpAnyH_take (i := 20) (oi := ⟨some 37, .indexAddr 40 (.tmp 35) (.tmp 36), 0, _, #[⟨18, .data⟩, ⟨19, .data⟩, ⟨12, .guard⟩], some (12, false)⟩) (v := .pointer (some ⟨gb, ob + k * 67, none⟩)) rfl (by kernel_rfl) (by kernel_rfl) (by kernel_rfl) (fun _ _ _ h => h) (Or.inl ⟨by rfl, fun w' hw' => ?_⟩) hHeld ?_
            · first | (go_simp; done) | (go_simp; rfl)
            try simp only [Act.put, qT, q0, qS]
            refine wpAnyH_take (i := 21) (oi := ⟨some 38, .fieldAddr 68 (.tmp 37) 1, 0, _, #[⟨20, .data⟩, ⟨12, .guard⟩], some (12, false)⟩) (v := .pointer (some ⟨gb, ob + k * 67 + 35, none⟩)) rfl (by kernel_rfl) (by kernel_rfl) (by kernel_rfl) (fun _ _ _ h => h) (Or.inl ⟨by rfl, fun w' hw' => ?_⟩) hHeld ?_
            · first | (go_simp; done) | (go_simp; rfl)
            try simp only [Act.put, qT, q0, qS]
            refine wpAnyH_take (i := 22) (oi := ⟨some 39, .load 23 (.tmp 38), 23, _, #[⟨21, .data⟩, ⟨12, .guard⟩], some (12, false)⟩) rfl (by kernel_rfl) (by kernel_rfl) (by kernel_rfl) (fun _ _ _ h => h) (yieldsIf_load_mid (by rfl) 23 (.tmp 38) rfl (gb) (ob + k * 67 + 35) rfl (b2.map B8) _ (fun _ h => rangeAt_below HRb2.out h) HUD.out rfl HJ2.out) hHeld ?_
            try simp only [Act.put, qT, q0, qS]
            refine wpAnyH_take (i := 23) (oi := ⟨some 40, .binOp .neq 23 (.tmp 34) (.tmp 39) 23, 4, _, #[⟨17, .data⟩, ⟨22, .data⟩, ⟨12, .guard⟩], some (12, false)⟩) (v := .bool true) rfl (by kernel_rfl) (by kernel_rfl) (by kernel_rfl) (fun _ _ _ h => h) (Or.inl ⟨by rfl, fun w' hw' => ?_⟩) hHeld ?_
            · have hqq := HEQ.out w'; first | (go_simp; done) | (go_simp; rfl)
            try simp only [Act.put, qT, q0, qS]
            refine wpAnyH_take (i := 24) (oi := ⟨some 41, .pick (.tmp 29) (.const (Go.Value.bool true)) (.tmp 40), 4, _, #[⟨12, .data⟩, ⟨23, .data⟩], none⟩) (v := .bool true) rfl (by kernel_rfl) (by kernel_rfl) (by kernel_rfl) (fun _ _ _ h => h) (Or.inl ⟨by rfl, fun w' hw' => ?_⟩) hHeld ?_
            · first | (go_simp; done) | (go_simp; rfl)
            try simp only [Act.put, qT, q0, qS]
            refine wpAnyH_done (by kernel_rfl) ?_ _
            go_wp2
            go_ret
            exact ⟨ret_bool' (decide_eq_false HNE.out).symm, hHeld2⟩
        · have HD : Hid (decide (a1 = b1) = false) := decide_eq_false hq1
          have HNE : Hid (la ≠ lb) := HBD.out (fun e => hq1 (Prod.mk.inj e).1)
          clear hq1
          go_wp2
          refine wp_region_held_drew (S := fun w' => Below w.heap.size w w') (by kernel_rfl) HBd.out (fun hHeld => ?_)
          generalize wr.drew = W at *
          refine wpAnyH_take (i := 0) (oi := ⟨some 17, .move (.tmp 0), 40, _, #[], none⟩) (v := .slice (some ⟨ga, oa, none⟩) N ca) rfl (by kernel_rfl) (by kernel_rfl) (by kernel_rfl) (fun _ _ _ h => h) (Or.inl ⟨by rfl, fun w' hw' => ?_⟩) hHeld ?_
          · first | (go_simp; done) | (go_simp; rfl)
          try simp only [Act.put, qT, q0, qS]
          refine wpAnyH_take (i := 1) (oi := ⟨some 18, .move (.tmp 5), 3, _, #[], none⟩) (v := .int .i64 (k : Int)) rfl (by kernel_rfl) (by kernel_rfl) (by kernel_rfl) (fun _ _ _ h => h) (Or.inl ⟨by rfl, fun w' hw' => ?_⟩) hHeld ?_
          · first | (go_simp; done) | (go_simp; rfl)
          try simp only [Act.put, qT, q0, qS]
          refine wpAnyH_take (i := 2) (oi := ⟨some 19, .indexAddr 40 (.tmp 17) (.tmp 18), 0, _, #[⟨0, .data⟩, ⟨1, .data⟩], none⟩) (v := .pointer (some ⟨ga, oa + k * 67, none⟩)) rfl (by kernel_rfl) (by kernel_rfl) (by kernel_rfl) (fun _ _ _ h => h) (Or.inl ⟨by rfl, fun w' hw' => ?_⟩) hHeld ?_
          · first | (go_simp; done) | (go_simp; rfl)
          try simp only [Act.put, qT, q0, qS]
          refine wpAnyH_take (i := 3) (oi := ⟨some 20, .fieldAddr 68 (.tmp 19) 0, 0, _, #[⟨2, .data⟩], none⟩) (v := .pointer (some ⟨ga, oa + k * 67, none⟩)) rfl (by kernel_rfl) (by kernel_rfl) (by kernel_rfl) (fun _ _ _ h => h) (Or.inl ⟨by rfl, fun w' hw' => ?_⟩) hHeld ?_
          · first | (go_simp; done) | (go_simp; rfl)
          try simp only [Act.put, qT, q0, qS]
          refine wpAnyH_take (i := 4) (oi := ⟨some 21, .load 66 (.tmp 20), 66, _, #[⟨3, .data⟩], none⟩) rfl (by kernel_rfl) (by kernel_rfl) (by kernel_rfl) (fun _ _ _ h => h) (yieldsIf_load_mid (by rfl) 66 (.tmp 20) rfl (ga) (oa + k * 67) rfl (QA) _ (fun _ h => rangeAt_below HRa1.out h) HUQ.out rfl HIA.out) hHeld ?_
          try simp only [Act.put, qT, q0, qS]
          refine wpAnyH_take (i := 5) (oi := ⟨some 22, .move (.tmp 1), 40, _, #[], none⟩) (v := .slice (some ⟨gb, ob, none⟩) N cb) rfl (by kernel_rfl) (by kernel_rfl) (by kernel_rfl) (fun _ _ _ h => h) (Or.inl ⟨by rfl, fun w' hw' => ?_⟩) hHeld ?_
          · first | (go_simp; done) | (go_simp; rfl)
          try simp only [Act.put, qT, q0, qS]
          refine wpAnyH_take (i := 6) (oi := ⟨some 23, .move (.tmp 5), 3, _, #[], none⟩) (v := .int .i64 (k : Int)) rfl (by kernel_rfl) (by kernel_rfl) (by kernel_rfl) (fun _ _ _ h => h) (Or.inl ⟨by rfl, fun w' hw' => ?_⟩) hHeld ?_
          · first | (go_simp; done) | (go_simp; rfl)
          try simp only [Act.put, qT, q0, qS]
          refine wpAnyH_take (i := 7) (oi := ⟨some 24, .indexAddr 40 (.tmp 22) (.tmp 23), 0, _, #[⟨5, .data⟩, ⟨6, .data⟩], none⟩) (v := .pointer (some ⟨gb, ob + k * 67, none⟩)) rfl (by kernel_rfl) (by kernel_rfl) (by kernel_rfl) (fun _ _ _ h => h) (Or.inl ⟨by rfl, fun w' hw' => ?_⟩) hHeld ?_
          · first | (go_simp; done) | (go_simp; rfl)
          try simp only [Act.put, qT, q0, qS]
          refine wpAnyH_take (i := 8) (oi := ⟨some 25, .fieldAddr 68 (.tmp 24) 0, 0, _, #[⟨7, .data⟩], none⟩) (v := .pointer (some ⟨gb, ob + k * 67, none⟩)) rfl (by kernel_rfl) (by kernel_rfl) (by kernel_rfl) (fun _ _ _ h => h) (Or.inl ⟨by rfl, fun w' hw' => ?_⟩) hHeld ?_
          · first | (go_simp; done) | (go_simp; rfl)
          try simp only [Act.put, qT, q0, qS]
          refine wpAnyH_take (i := 9) (oi := ⟨some 26, .load 66 (.tmp 25), 66, _, #[⟨8, .data⟩], none⟩) rfl (by kernel_rfl) (by kernel_rfl) (by kernel_rfl) (fun _ _ _ h => h) (yieldsIf_load_mid (by rfl) 66 (.tmp 25) rfl (gb) (ob + k * 67) rfl (QB) _ (fun _ h => rangeAt_below HRb1.out h) HUQ.out rfl HIB.out) hHeld ?_
          try simp only [Act.put, qT, q0, qS]
          refine wpAnyH_ready (rs := [10]) (by kernel_rfl) (by simp) ?_
          refine AllReadyH.cons (o := { dst := some 27, op := .call { callee := Go.Callee.value (.func 27), args := #[.tmp 21, .tmp 26], argTypes := #[66, 66] }, type := 4, pos := _, after := #[⟨4, .data⟩, ⟨9, .data⟩], guard := none }) rfl (fun K hK => ?_) AllReadyH.nil
          rw [if_pos (by rfl)]
          go_wp2_with fail
          refine (qsame_any (.agg QA.toArray) (.agg QB.toArray) a1 b1 _ (hq_below HA.out hHeld) (hq_below HB'.out hHeld)).mono ?_
          rintro ex W2 ⟨rfl, hb2⟩
          rw [HD.out]
          have hHeld2 : Below w.heap.size w W2 := hHeld.trans (hb2.mono hHeld.size)
          clear hb2
          refine hK.out _ _ hHeld2 (fun _ => ?_)
          clear hK K
          try simp only [Act.put, qT, q0, qS]
          have hHeld := hHeld2
          refine wpAnyH_take (i := 11) (oi := ⟨some 28, .unOp .not 4 (.tmp 27), 4, _, #[⟨10, .data⟩], none⟩) (v := .bool true) rfl (by kernel_rfl) (by kernel_rfl) (by kernel_rfl) (fun _ _ _ h => h) (Or.inl ⟨by rfl, fun w' hw' => ?_⟩) hHeld ?_
          · first | (go_simp; done) | (go_simp; rfl)
          try simp only [Act.put, qT, q0, qS]
          refine wpAnyH_take (i := 12) (oi := ⟨some 29, .move (.tmp 28), 4, _, #[⟨11, .data⟩, ⟨10, .chain⟩], none⟩) (v := .bool true) rfl (by kernel_rfl) (by kernel_rfl) (by kernel_rfl) (fun _ _ _ h => h) (Or.inl ⟨by rfl, fun w' hw' => ?_⟩) hHeld ?_
          · first | (go_simp; done) | (go_simp; rfl)
          try simp only [Act.put, qT, q0, qS]
          refine wpAnyH_take (i := 13) (oi := ⟨some 30, .move (.tmp 0), 40, _, #[⟨12, .guard⟩], some (12, false)⟩) (v := undef) rfl (by kernel_rfl) (by kernel_rfl) (by kernel_rfl) (fun _ _ _ h => h) (Or.inr ⟨by rfl, rfl⟩) hHeld ?_
          try simp only [Act.put, qT, q0, qS]
          refine wpAnyH_take (i := 14) (oi := ⟨some 31, .move (.tmp 5), 3, _, #[⟨12, .guard⟩], some (12, false)⟩) (v := undef) rfl (by kernel_rfl) (by kernel_rfl) (by kernel_rfl) (fun _ _ _ h => h) (Or.inr ⟨by rfl, rfl⟩) hHeld ?_
          try simp only [Act.put, qT, q0, qS]
          refine wpAnyH_take (i := 15) (oi := ⟨some 32, .indexAddr 40 (.tmp 30) (.tmp 31), 0, _, #[⟨13, .data⟩, ⟨14, .data⟩, ⟨12, .guard⟩], some (12, false)⟩) (v := undef) rfl (by kernel_rfl) (by kernel_rfl) (by kernel_rfl) (fun _ _ _ h => h) (Or.inr ⟨by rfl, rfl⟩) hHeld ?_
          try simp only [Act.put, qT, q0, qS]
          refine wpAnyH_take (i := 16) (oi := ⟨some 33, .fieldAddr 68 (.tmp 32) 1, 0, _, #[⟨15, .data⟩, ⟨12, .guard⟩], some (12, false)⟩) (v := undef) rfl (by kernel_rfl) (by kernel_rfl) (by kernel_rfl) (fun _ _ _ h => h) (Or.inr ⟨by rfl, rfl⟩) hHeld ?_
          try simp only [Act.put, qT, q0, qS]
          refine wpAnyH_take (i := 17) (oi := ⟨some 34, .load 23 (.tmp 33), 23, _, #[⟨16, .data⟩, ⟨12, .guard⟩], some (12, false)⟩) (v := undef) rfl (by kernel_rfl) (by kernel_rfl) (by kernel_rfl) (fun _ _ _ h => h) (Or.inr ⟨by rfl, rfl⟩) hHeld ?_
          try simp only [Act.put, qT, q0, qS]
          refine wpAnyH_take (i := 18) (oi := ⟨some 35, .move (.tmp 1), 40, _, #[⟨12, .guard⟩], some (12, false)⟩) (v := undef) rfl (by kernel_rfl) (by kernel_rfl) (by kernel_rfl) (fun _ _ _ h => h) (Or.inr ⟨by rfl, rfl⟩) hHeld ?_
          try simp only [Act.put, qT, q0, qS]
          refine wpAnyH_take (i := 19) (oi := ⟨some 36, .move (.tmp 5), 3, _, #[⟨12, .guard⟩], some (12, false)⟩) (v := undef) rfl (by kernel_rfl) (by kernel_rfl) (by kernel_rfl) (fun _ _ _ h => h) (Or.inr ⟨by rfl, rfl⟩) hHeld ?_
          try simp only [Act.put, qT, q0, qS]
          refine wpAnyH_take (i := 20) (oi := ⟨some 37, .indexAddr 40 (.tmp 35) (.tmp 36), 0, _, #[⟨18, .data⟩, ⟨19, .data⟩, ⟨12, .guard⟩], some (12, false)⟩) (v := undef) rfl (by kernel_rfl) (by kernel_rfl) (by kernel_rfl) (fun _ _ _ h => h) (Or.inr ⟨by rfl, rfl⟩) hHeld ?_
          try simp only [Act.put, qT, q0, qS]
          refine wpAnyH_take (i := 21) (oi := ⟨some 38, .fieldAddr 68 (.tmp 37) 1, 0, _, #[⟨20, .data⟩, ⟨12, .guard⟩], some (12, false)⟩) (v := undef) rfl (by kernel_rfl) (by kernel_rfl) (by kernel_rfl) (fun _ _ _ h => h) (Or.inr ⟨by rfl, rfl⟩) hHeld ?_
          try simp only [Act.put, qT, q0, qS]
          refine wpAnyH_take (i := 22) (oi := ⟨some 39, .load 23 (.tmp 38), 23, _, #[⟨21, .data⟩, ⟨12, .guard⟩], some (12, false)⟩) (v := undef) rfl (by kernel_rfl) (by kernel_rfl) (by kernel_rfl) (fun _ _ _ h => h) (Or.inr ⟨by rfl, rfl⟩) hHeld ?_
          try simp only [Act.put, qT, q0, qS]
          refine wpAnyH_take (i := 23) (oi := ⟨some 40, .binOp .neq 23 (.tmp 34) (.tmp 39) 23, 4, _, #[⟨17, .data⟩, ⟨22, .data⟩, ⟨12, .guard⟩], some (12, false)⟩) (v := undef) rfl (by kernel_rfl) (by kernel_rfl) (by kernel_rfl) (fun _ _ _ h => h) (Or.inr ⟨by rfl, rfl⟩) hHeld ?_
          try simp only [Act.put, qT, q0, qS]
          refine wpAnyH_take (i := 24) (oi := ⟨some 41, .pick (.tmp 29) (.const (Go.Value.bool true)) (.tmp 40), 4, _, #[⟨12, .data⟩, ⟨23, .data⟩], none⟩) (v := .bool true) rfl (by kernel_rfl) (by kernel_rfl) (by kernel_rfl) (fun _ _ _ h => h) (Or.inl ⟨by rfl, fun w' hw' => ?_⟩) hHeld ?_
          · first | (go_simp; done) | (go_simp; rfl)
          try simp only [Act.put, qT, q0, qS]
          refine wpAnyH_done (by kernel_rfl) ?_ _
          go_wp2
          go_ret
          exact ⟨ret_bool' (decide_eq_false HNE.out).symm, hHeld2⟩
      · have hkN : k = N := by omega
        have HE : Hid (la = lb) := by
          have h := HEK.out
          rw [hkN, HN.out, List.take_length, HLN.out, List.take_length] at h
          exact h
        have hkI : ¬ (k : Int) < (N : Int) := by omega
        go_wp2
        go_ret
        exact ⟨ret_bool' (decide_eq_true HE.out).symm, hb⟩
  · have hq : ((la.length : Int) != (lb.length : Int)) = true := by rw [bne_iff_ne]; omega
    have HNE : Hid (la ≠ lb) := fun e => hl (by rw [e])
    clear hl
    go_enter Tryz.func13, Tryz.ntmps13
    go_wp2
    go_ret
    exact ⟨ret_bool' (decide_eq_false HNE.out).symm, Below.refl _ _⟩

end Go.Proofs.YtbmmibmfjhehhaaGreat.R5
