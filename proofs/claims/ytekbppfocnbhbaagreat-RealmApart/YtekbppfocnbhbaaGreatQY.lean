import Derived.Test.YtekbppfocnbhbaaGreatQJ
set_option linter.unusedVariables false
set_option linter.unusedSimpArgs false
set_option maxHeartbeats 16000000
set_option maxRecDepth 100000
namespace Go.Proofs.YtekbppfocnbhbaaGreat.R5
open scoped Classical
open Go.RowKit
def HBf (w : World) (b : Nat) (v : Value) (l : List UInt8) : Prop := HB w v l ∧ v.ownBlock = some b ∧ ∃ cs, w.heap[b]? = some (.cells cs 5 (cs.size, cs.size + 1))
theorem hbf_keep {w w' : World} {b : Nat} {v : Value} {l : List UInt8} (h : HBf w b v l) (hk : w'.heap[b]? = w.heap[b]?) : HBf w' b v l := by
  obtain ⟨h1, h2, cs, h3⟩ := h
  refine ⟨hb_keep h1 (fun k e _ => ?_), h2, cs, hk.trans h3⟩
  have e' : b = k := by rw [h2] at e; simpa using e
  rw [← e']; exact hk
theorem conv_new (W : World) (l : List UInt8) (hl : l.length ≤ 1099511627776) : ∃ cap w', (convert 9 106 (tx l)).run Tryz.prog W = .ok (.slice (some ⟨W.heap.size, 0, none⟩) l.length cap) w' ∧ HBf w' W.heap.size (.slice (some ⟨W.heap.size, 0, none⟩) l.length cap) l ∧ Below W.heap.size W w' ∧ W.heap.size < w'.heap.size := by
  have hs : (⟨l.toArray⟩ : ByteArray).size = l.length := by simp [ByteArray.size]
  have hrun := run_bytes_of_string (P := Tryz.prog) W 9 106 5 (⟨l.toArray⟩ : ByteArray) Tryz.underlying9 Tryz.underlying106 Tryz.underlying5
  rw [hs] at hrun
  refine ⟨_, _, hrun, ⟨?_, rfl, _, heap_alloc_new W.drew _⟩, ((Below.refl _ _).drew).alloc (Nat.le_refl _) _, by simp⟩
  by_cases h0 : l.length = 0
  · refine .inl ⟨List.eq_nil_of_length_eq_zero h0, some ⟨W.heap.size, 0, none⟩, _, by rw [h0], fun h => by cases h⟩
  · refine .inr ⟨W.heap.size, 0, _, rfl, grownCap_ge _ _ _ _, grownCap_le_maxLen _ _ _ _ (by unfold maxLen; omega), fun i hi => ?_⟩
    have hrow : ∀ o : Obj, (W.drew.alloc o).heap[W.heap.size]? = some o := fun o => heap_alloc_new W.drew o
    rw [Nat.zero_add, cell_of_row _ W.heap.size i _ _ _ (hrow _)]
    unfold bytesRow
    rw [Array.getElem?_append_left (by simpa using hi)]
    simp [List.getD, List.getElem?_eq_getElem hi]
theorem wp_convn {op : Oper} {a : Act} {K : Act → World → Prop} {Q : Exit → Act → World → Prop} {W : World} (x : Operand) (l : List UInt8) (ho : op.op = .convert 9 106 x) (hx : a.eval x = tx l) (hl : l.length ≤ 1099511627776)
    (h : ∀ cap w', HBf w' W.heap.size (.slice (some ⟨W.heap.size, 0, none⟩) l.length cap) l → Below W.heap.size W w' → W.heap.size < w'.heap.size → K (a.put op.dst (.slice (some ⟨W.heap.size, 0, none⟩) l.length cap)) w') : op.wp Tryz.prog a W K Q := by
  obtain ⟨cap, w', hrun, h1, h2, h3⟩ := conv_new W l hl
  unfold Oper.wp
  simp [execOp, ho, hx, hrun, Result.andThen]
  exact h cap w' h1 h2 h3
theorem info67a (RS : Array Value) (h : RS.size = 67) : (Tryz.prog.info? 140).map (·.size) = some RS.size := by rw [h]; kernel_rfl
theorem zero_asked (w : World) : (zeroValue 140).run Tryz.prog w = .ok (.agg zAk.toArray) w := by kernel_rfl
structure SAs (w : World) (KL : List Value) (X : World) : Prop where
  b : Below w.heap.size w X
  k : X.heap[w.heap.size]? = some (.cells KL.toArray 120 (0, 0))
  z : ∃ Z, Z.size = 67 ∧ X.heap[w.heap.size + 1]? = some (.cells Z 140 (0, 0))
theorem SAs.step {w : World} {KL : List Value} {X Y : World} (h : SAs w KL X) (hb : Below X.heap.size X Y) : SAs w KL Y := by
  obtain ⟨Z, h1, h2⟩ := h.z
  exact ⟨h.b.trans (hb.mono h.b.size), (hb.block _ (row_lt h.k)).trans h.k, Z, h1, (hb.block _ (row_lt h2)).trans h2⟩
def AskedEnd (w : World) (x : Qn × List UInt8) (e : Ending) (w' : World) : Prop :=
  ∃ b cap, e = .returned (.agg (aL x (.slice (some ⟨b, 0, none⟩) x.1.data.length cap)).toArray) ∧ w.heap.size ≤ b ∧ b < w'.heap.size ∧ HBf w' b (.slice (some ⟨b, 0, none⟩) x.1.data.length cap) x.1.data ∧ Below w.heap.size w w'
theorem asked_any (og mb : Nat) (l : List (Qn × List UInt8)) (q : Qn) (A : List UInt8) (w : World) (hc : w.cell? ⟨og, 35, none⟩ = some (.map (some mb))) (hl : lOk l) (hm : MH w mb l) (hq : kOk q) (hf : fndA q l = some A) :
    Calls Tryz.prog 76 #[.pointer (some ⟨og, 0, none⟩), .agg (kL q).toArray] w fun e w' => AskedEnd w (q, A) e w' := by
  have hog := block_lt hc
  simp only at hog
  have hqk := hq.key
  have hAl : A.length = 32 := (hl.all _ (fndA_some hf)).2
  have HDT : Hid _ := hq.data
  have hza := fun W => zero_asked W
  have HLK : Hid (∀ X, Below w.heap.size w X → (Instr.lookup 114 (.map (some mb)) (.agg (kL q).toArray) false).run Tryz.prog X = .ok (.agg (A.map B8).toArray) X) := fun X hX => by
    have h1 := mh_look (w := X) hl (hm.keep (hX.block _ hm.lt)) hq false (zero_dig X)
    unfold lookV at h1
    rw [hf] at h1
    exact h1
  have HC : Hid (∀ X, Below w.heap.size w X → X.cell? ⟨og, 35, none⟩ = some (.map (some mb))) := fun X hX => (hX.cell (show (⟨og, 35, none⟩ : Addr).block < w.heap.size from hog)).trans hc
  have HR : Hid (∀ X : World, X.heap[w.heap.size]? = some (.cells (kL q).toArray 120 (0, 0)) → X.cell? ⟨w.heap.size, 0, none⟩ = some (.int .i64 q.kind) ∧ X.rangeAt w.heap.size 1 (q.key.map B8) ∧ X.cell? ⟨w.heap.size, 33, none⟩ = some (.int .i64 q.dom) ∧ X.cell? ⟨w.heap.size, 34, none⟩ = some (tx q.data)) := fun X hX => q_facts hqk hX
  have HKY : Hid ((q.key.map B8).length = 32) := by show _ = _; simpa using hqk
  have HKI : Hid _ := info32 (q.key.map B8) HKY.out
  have HKL : Hid ((kL q).length = 35) := kL_len q hqk
  have HKI2 : Hid _ := info35k (kL q) HKL.out
  have HAL : Hid ((A.map B8).length = 32) := by show _ = _; simpa using hAl
  have HAO : Hid (∀ (b cap : Nat), qL q (.slice (some ⟨b, 0, none⟩) q.data.length cap) ++ A.map B8 = aL (q, A) (.slice (some ⟨b, 0, none⟩) q.data.length cap)) := fun b cap => rfl
  have HQ4 : Hid (∀ (b cap : Nat) (W : World), (Instr.build 138 #[(0, .int .i64 q.kind), (1, .agg (q.key.map B8).toArray), (2, .int .i64 q.dom), (3, .slice (some ⟨b, 0, none⟩) q.data.length cap)]).run Tryz.prog W = .ok (.agg (qL q (.slice (some ⟨b, 0, none⟩) q.data.length cap)).toArray) W) := fun b cap W => build_q4 W q.kind q.dom (q.key.map B8) HKY.out (some ⟨b, 0, none⟩) q.data.length cap
  have HQN : Hid (∀ (b cap : Nat), (qL q (.slice (some ⟨b, 0, none⟩) q.data.length cap)).length = 35) := fun b cap => qL_len q _ hqk
  have HA1 : Hid (∀ (b cap : Nat), (qL q (.slice (some ⟨b, 0, none⟩) q.data.length cap) ++ A.map B8).toArray.all (·.oneCell') = true) := fun b cap => by
    rw [Array.all_eq_true_iff_forall_mem]
    intro v hv
    have hv' : v ∈ qL q (.slice (some ⟨b, 0, none⟩) q.data.length cap) ++ A.map B8 := by simpa using hv
    rcases List.mem_append.1 hv' with h | h
    · exact qL_one q _ rfl v h
    · exact B8_one A v h
  obtain ⟨KL, hKL⟩ : ∃ L, L = kL q := ⟨_, rfl⟩
  obtain ⟨ZA, hZA⟩ : ∃ Z, Z = zAk.toArray := ⟨_, rfl⟩
  have HZA : Hid (ZA.size = 67) := by show _ = _; rw [hZA]; kernel_rfl
  rw [← hZA] at hza
  rw [← hKL] at HLK HR HKL HKI2 ⊢
  have HS0 : Hid (SAs w KL ((w.alloc (.cells KL.toArray 120 (0, 0))).alloc (.cells ZA 140 (0, 0))).drew) := ⟨(((Below.refl _ _).alloc (Nat.le_refl _) _).alloc (by simp) _).drew, alloc2_first _ _ _, ZA, HZA.out, heap_at _ _ _ (by simp)⟩
  clear hc hl hm hf hAl hKL hZA hq hqk
  go_enter Tryz.func76, Tryz.ntmps76
  go_wp2
  refine wp_region_held_drew (S := SAs w KL) (by kernel_rfl) HS0.out (fun hHeld => ?_)
  generalize ((w.alloc (.cells KL.toArray 120 (0, 0))).alloc (.cells ZA 140 (0, 0))).drew = W at *
  refine qzI 0 ⟨some 5, .fieldAddr 120 (.tmp 3) 0, 0, _, #[], none⟩ (.pointer (some ⟨w.heap.size, 0, none⟩)) rfl (by kernel_rfl) (fun _ _ _ h => h) (by rfl) (fun w' hw' => ?_) hHeld ?_
  · go_simp <;> rfl
  try simp only [Act.put, qT, q0, qS]
  refine qzI 1 ⟨some 6, .load 118 (.tmp 5), 118, _, #[⟨0, .data⟩], none⟩ (.int .i64 q.kind) rfl (by kernel_rfl) (fun _ _ _ h => h) (by rfl) (fun w' hw' => ?_) hHeld ?_
  · have hcc := (HR.out w' hw'.k).1; go_simp <;> rfl
  try simp only [Act.put, qT, q0, qS]
  refine qzI 2 ⟨some 7, .fieldAddr 120 (.tmp 3) 1, 0, _, #[], none⟩ (.pointer (some ⟨w.heap.size, 1, none⟩)) rfl (by kernel_rfl) (fun _ _ _ h => h) (by rfl) (fun w' hw' => ?_) hHeld ?_
  · go_simp <;> rfl
  try simp only [Act.put, qT, q0, qS]
  refine qzK 3 ⟨some 8, .load 33 (.tmp 7), 33, _, #[⟨2, .data⟩], none⟩ _ rfl (by kernel_rfl) (fun _ _ _ h => h) (yieldsIf_load_mid (by rfl) 33 (.tmp 7) rfl (w.heap.size) (1) rfl (q.key.map B8) _ (fun _ h => (HR.out _ h.k).2.1) Tryz.underlying33 rfl HKI.out) hHeld ?_
  try simp only [Act.put, qT, q0, qS]
  refine qzI 4 ⟨some 9, .fieldAddr 120 (.tmp 3) 2, 0, _, #[], none⟩ (.pointer (some ⟨w.heap.size, 33, none⟩)) rfl (by kernel_rfl) (fun _ _ _ h => h) (by rfl) (fun w' hw' => ?_) hHeld ?_
  · go_simp <;> rfl
  try simp only [Act.put, qT, q0, qS]
  refine qzI 5 ⟨some 10, .load 105 (.tmp 9), 105, _, #[⟨4, .data⟩], none⟩ (.int .i64 q.dom) rfl (by kernel_rfl) (fun _ _ _ h => h) (by rfl) (fun w' hw' => ?_) hHeld ?_
  · have hcc := (HR.out w' hw'.k).2.2.1; go_simp <;> rfl
  try simp only [Act.put, qT, q0, qS]
  refine qzI 6 ⟨some 11, .fieldAddr 120 (.tmp 3) 3, 0, _, #[], none⟩ (.pointer (some ⟨w.heap.size, 34, none⟩)) rfl (by kernel_rfl) (fun _ _ _ h => h) (by rfl) (fun w' hw' => ?_) hHeld ?_
  · go_simp <;> rfl
  try simp only [Act.put, qT, q0, qS]
  refine qzI 7 ⟨some 12, .load 9 (.tmp 11), 9, _, #[⟨6, .data⟩], none⟩ (tx q.data) rfl (by kernel_rfl) (fun _ _ _ h => h) (by rfl) (fun w' hw' => ?_) hHeld ?_
  · have hcc := (HR.out w' hw'.k).2.2.2; go_simp <;> rfl
  try simp only [Act.put, qT, q0, qS]
  refine qzI 10 ⟨some 15, .move (.tmp 0), 25, _, #[], none⟩ (.pointer (some ⟨og, 0, none⟩)) rfl (by kernel_rfl) (fun _ _ _ h => h) (by rfl) (fun w' hw' => ?_) hHeld ?_
  · go_simp <;> rfl
  try simp only [Act.put, qT, q0, qS]
  refine qzI 11 ⟨some 16, .nilCheck (.tmp 15), 0, _, #[⟨10, .data⟩], none⟩ (.pointer (some ⟨og, 0, none⟩)) rfl (by kernel_rfl) (fun _ _ _ h => h) (by rfl) (fun w' hw' => ?_) hHeld ?_
  · go_simp <;> rfl
  try simp only [Act.put, qT, q0, qS]
  refine qzI 12 ⟨some 17, .fieldAddr 116 (.tmp 16) 4, 0, _, #[⟨11, .data⟩], none⟩ (.pointer (some ⟨og, 35, none⟩)) rfl (by kernel_rfl) (fun _ _ _ h => h) (by rfl) (fun w' hw' => ?_) hHeld ?_
  · go_simp <;> rfl
  try simp only [Act.put, qT, q0, qS]
  refine qzI 13 ⟨some 18, .load 114 (.tmp 17), 114, _, #[⟨12, .data⟩], none⟩ (.map (some mb)) rfl (by kernel_rfl) (fun _ _ _ h => h) (by rfl) (fun w' hw' => ?_) hHeld ?_
  · have hcc := HC.out w' hw'.b; go_simp <;> rfl
  try simp only [Act.put, qT, q0, qS]
  refine qzK 14 ⟨some 19, .load 120 (.tmp 3), 120, _, #[], none⟩ _ rfl (by kernel_rfl) (fun _ _ _ h => h) (yieldsIf_load_mid (by rfl) 120 (.tmp 3) rfl (w.heap.size) (0) rfl (KL) _ (fun _ h => rangeAt_row h.k) Tryz.underlying120 rfl HKI2.out) hHeld ?_
  try simp only [Act.put, qT, q0, qS]
  refine qzI 15 ⟨some 20, .lookup 114 (.tmp 18) (.tmp 19) false, 33, _, #[⟨13, .data⟩, ⟨14, .data⟩], none⟩ (.agg (A.map B8).toArray) rfl (by kernel_rfl) (fun _ _ _ h => h) (by rfl) (fun w' hw' => ?_) hHeld ?_
  · have hll := HLK.out w' hw'.b; go_simp <;> rfl
  try simp only [Act.put, qT, q0, qS]
  refine qzR 8 ⟨some 13, .convert 9 106 (.tmp 12), 106, _, #[⟨7, .data⟩], none⟩ (by kernel_rfl) rfl (by rfl) (fun K hK => ?_)
  refine wp_convn (.tmp 12) q.data rfl rfl HDT.out ?_
  intro cap W1 hbs hbW hW1
  have hsz : w.heap.size + 1 < W.heap.size := by obtain ⟨Z, _, hz⟩ := hHeld.z; exact row_lt hz
  have hH1 := hHeld.step hbW
  have hs1 : w.heap.size ≤ W.heap.size := hHeld.b.size
  have HBS : Hid _ := hbs
  clear hHeld hbW hbs
  refine hK.out _ _ hH1 (fun _ => ?_)
  clear hK K
  try simp only [Act.put, qT, q0, qS]
  have hHeld := hH1
  have HB4 : Hid _ := HQ4.out W.heap.size cap
  have HBA : Hid _ := fun X => build_asked X (qL q (.slice (some ⟨W.heap.size, 0, none⟩) q.data.length cap)) (A.map B8) (HQN.out W.heap.size cap) HAL.out
  have HA1' : Hid _ := HA1.out W.heap.size cap
  have HAO' : Hid _ := HAO.out W.heap.size cap
  have hlen : (qL q (.slice (some ⟨W.heap.size, 0, none⟩) q.data.length cap) ++ A.map B8).toArray.size = 67 := by rw [List.size_toArray, List.length_append, HQN.out, HAL.out]
  have HSZ : Hid _ := hlen
  clear hlen
  generalize qL q (.slice (some ⟨W.heap.size, 0, none⟩) q.data.length cap) = QN at *
  generalize QN ++ A.map B8 = RL at *
  refine qzI 9 ⟨some 14, .build 138 #[(0, .tmp 6), (1, .tmp 8), (2, .tmp 10), (3, .tmp 13)], 138, _, #[⟨1, .data⟩, ⟨3, .data⟩, ⟨5, .data⟩, ⟨8, .data⟩], none⟩ (.agg QN.toArray) rfl (by kernel_rfl) (fun _ _ _ h => h) (by rfl) (fun w' hw' => ?_) hHeld ?_
  · exact exec_build _ _ 138 _ _ _ w' rfl (by simp; exact ⟨rfl, rfl, rfl, rfl⟩) (HB4.out w')
  try simp only [Act.put, qT, q0, qS]
  refine qzI 16 ⟨some 21, .build 140 #[(0, .tmp 14), (1, .tmp 20)], 140, _, #[⟨9, .data⟩, ⟨15, .data⟩], none⟩ (.agg RL.toArray) rfl (by kernel_rfl) (fun _ _ _ h => h) (by rfl) (fun w' hw' => ?_) hHeld ?_
  · exact exec_build _ _ 140 _ _ _ w' rfl (by simp; exact ⟨rfl, rfl⟩) (HBA.out w')
  try simp only [Act.put, qT, q0, qS]
  obtain ⟨Z, hz1, hz2⟩ := hH1.z
  refine qzR 17 ⟨none, .store 140 (.tmp 4) (.tmp 21), 0, _, #[⟨16, .data⟩, ⟨0, .phase⟩, ⟨1, .phase⟩, ⟨2, .phase⟩, ⟨3, .phase⟩, ⟨4, .phase⟩, ⟨5, .phase⟩, ⟨6, .phase⟩, ⟨7, .phase⟩, ⟨8, .phase⟩, ⟨9, .phase⟩, ⟨10, .phase⟩, ⟨11, .phase⟩, ⟨12, .phase⟩, ⟨13, .phase⟩, ⟨14, .phase⟩, ⟨15, .phase⟩, ⟨16, .phase⟩], none⟩ (by kernel_rfl) rfl (by rfl) (fun K hK => ?_)
  refine wp_store_row 140 _ _ rfl (w.heap.size + 1) RL.toArray rfl rfl 140 Z hz2 (info67a _ HSZ.out) (hz1.trans HSZ.out.symm) HA1'.out ?_
  have hr2 := setRow_heap _ _ _ RL.toArray _ _ hz2
  have hH2 : SAs w KL (W1.setRow (w.heap.size + 1) RL.toArray) := ⟨below_setRow hH1.b (by omega) _, (setRow_other _ _ _ _ (by omega)).trans hH1.k, RL.toArray, HSZ.out, hr2⟩
  refine hK.out _ _ hH2 (fun _ => ?_)
  clear hK K
  try simp only [Act.put, qT, q0, qS]
  refine wpAnyH_done (by kernel_rfl) ?_ _
  have HR2 : Hid _ := hr2
  have HEND : Hid (AskedEnd w (q, A) (.returned (.agg RL.toArray)) (W1.setRow (w.heap.size + 1) RL.toArray)) := ⟨W.heap.size, cap, by rw [HAO'.out], by omega, by simpa using hW1, hbf_keep HBS.out (setRow_other _ _ _ _ (by omega)), hH2.b⟩
  clear hHeld hH1 hH2 hz2 hz1 hr2
  go_wp2
  refine bodyPost_ret (v := .agg RL.toArray) ?_ rfl HEND.out
  exact results_cell_row Tryz.results76 _ _ (w.heap.size + 1) 140 _ (0, 0) _ rfl HR2.out Tryz.underlying140 rfl (info67a _ HSZ.out)
end Go.Proofs.YtekbppfocnbhbaaGreat.R5
