/- measure: Begin, Data, Rec put together; Next. -/
import Derived.Test.YtpmknkagnkagpaaGreatZL
set_option linter.unusedVariables false
set_option linter.unusedSimpArgs false
namespace Go.Proofs.YtpmknkagnkagpaaGreat.ZC
open Go.RowKit

section
variable {B og mb mo : Nat} {S : Nat → Prop} {w w' : World} {o o' : R5.Pra} {dv ov pv : Value} {m A : List UInt8} {r : Rd} {e : Ending} {n : Int}
def RErr (n : Int) (W : World) (v : Value) (w' : World) : Prop := v = R5.errV n ∧ Below W.heap.size W w'
def ROk (B og mb : Nat) (S : Nat → Prop) (o' : R5.Pra) (dv : Value) (A : List UInt8) (W : World) (v : Value) (w' : World) : Prop := v = R5.okV A ∧ R5.Fr S W w' ∧ ∃ ov', R5.PO B og mb (fun k => S k ∨ (W.heap.size ≤ k ∧ k < w'.heap.size)) w' o' dv ov'
theorem mc_bad (hm : m.length = 32) (hr : r.ok) (hmay : mayD r = false) (hc : w.cell? ⟨og, 35, none⟩ = some (.map (some mo))) : MC w (.pointer (some ⟨og, 0, none⟩)) (m.map B8) (rdL r) (RErr 2) := fun W hW => by
  refine (ms_bad m r W og mo hm hr hmay ((hW.cell (block_lt hc)).trans hc)).mono ?_
  rintro e w' ⟨rfl, hb⟩
  exact ⟨List.replicate 32 0, 2, by simp, rfl, ⟨rfl, hb⟩, fun k _ hk => hb.block k hk⟩
theorem mc_ok (hB : B ≤ w.heap.size) (hll : o.log.length < 1000000) (ho : R5.PO B og mb S w o dv ov) (hm : m.length = 32) (hr : r.ok) (hmay : mayD r = true) (hA : A.length = 32) (hR : nxP o (qOf m r) = (A, o')) : MC w (.pointer (some ⟨og, 0, none⟩)) (m.map B8) (rdL r) (ROk B og mb S o' dv A) := fun W hW => by
  refine (ms_ok (Nat.le_trans hB hW.size) hll (ho.below hW) hm hr hmay hA hR).mono ?_
  rintro e w' ⟨rfl, hf, hp⟩
  exact ⟨A, 0, hA, rfl, ⟨rfl, hf, hp⟩, fun k h1 h2 => hf.block k h2 (fun hS => by have := ho.top k hS; omega)⟩
theorem gend_err (h : GEnd w (RErr n) e w') : e = .returned (R5.errV n) ∧ Below w.heap.size w w' := by
  obtain ⟨W, v, w3, b, N, rfl, hb, h1, h2, ⟨rfl, h3⟩, rfl⟩ := h
  exact ⟨rfl, below_setRow (hb.trans (h3.mono hb.size)) h1 _⟩
theorem gend_ok (hB : B ≤ w.heap.size) (ho : R5.PO B og mb S w o dv ov) (h : GEnd w (ROk B og mb S o' dv A) e w') : PR B og mb S w o' dv (R5.okV A) e w' := by
  obtain ⟨W, v, w3, b, N, rfl, hb, h1, h2, ⟨rfl, h3, h4⟩, rfl⟩ := h
  exact ⟨rfl, pfin ho hB hb h3 h4 ((R5.Fr.refl _ _).setRow _ _ (.inl ⟨h1, h2⟩))⟩
theorem rec1_may {V : List UInt8} : mayD (rec1 V) = true := by unfold mayD; rw [if_pos (show (rec1 V).kind = 1 from rfl)]; exact rdEq_self _
theorem rec2_may (pg : Int) (g : List UInt8) : mayD (rec2 pg g) = decide (0 ≤ pg ∧ pg < 128) := by
  unfold mayD
  rw [if_neg (by show ¬ (2 : Int) = 1; decide), if_pos (show (rec2 pg g).kind = 2 from rfl)]
  show (rdEq (rec2 pg g) (rec2 pg g) && _) = _
  rw [rdEq_self, Bool.true_and]; rfl
theorem z0_len : Z0.length = 32 := by simp [Z0]
end
set_option maxHeartbeats 1000000 in
set_option maxRecDepth 100000 in
theorem next_gen (pv : Value) (m : List UInt8) (r : Rd) (w : World) (R : World → Value → World → Prop) (hm : m.length = 32) (hr : r.ok) (hk : r.kind ≠ 1) (hM : MC w pv (m.map B8) (rdL r) R) :
    Calls Tryz.prog 7 #[pv, .agg (m.map B8).toArray, .agg (rdL r).toArray] w fun e w' => GEnd w R e w' := by
  have hz := fun W => R5.zero_dig W
  obtain ⟨ZL, hZL⟩ : ∃ L, L = (List.replicate 32 (0 : UInt8)).map B8 := ⟨_, rfl⟩
  rw [← hZL] at hz
  have HZS : Hid (ZL.toArray.size = 32) := by show _ = _; rw [hZL]; simp
  have HZ1 : Hid (ZL.toArray.all (·.oneCell') = true) := by show _ = _; rw [hZL]; exact R5.B8_onea _
  have HBD : Hid (∀ W, (Instr.build 24 #[]).run Tryz.prog W = .ok (.agg ZL.toArray) W) := fun W => by rw [hZL]; exact R5.build_dig W
  obtain ⟨V1, hV1⟩ : ∃ W1, W1 = ((w.alloc (.cells (m.map B8).toArray 24 (0, 0))).alloc (.cells (rdL r).toArray 33 (0, 0))).alloc (.cells ZL.toArray 24 (0, 0)) := ⟨_, rfl⟩
  obtain ⟨hb1, hs1, hr0, hr1, hr2⟩ := alloc3 w _ _ _ _ _ _ V1 hV1
  have HSW : Hid (SW w 33 (m.map B8) (rdL r) V1) := ⟨hr0, hr1, ⟨_, HZS.out, hr2⟩⟩
  have HR2 : Hid (V1.heap[w.heap.size + 1 + 1]? = some (.cells ZL.toArray 24 (0, 0))) := hr2
  have HB1 : Hid (Below w.heap.size w V1) := hb1
  have HMI : Hid _ := R5.info32 (m.map B8) (by simpa using hm)
  have HRI : Hid _ := info172 (rdL r) (rdL_len hr)
  have hc0 : V1.cell? ⟨w.heap.size + 1, 0, none⟩ = some (.int .i64 r.kind) := by have := PC.rangeAt_row hr1 0 _ (rdL_0 r); rwa [Nat.zero_add] at this
  rw [hV1] at hc0
  have HMC : Hid (MC w pv (m.map B8) (rdL r) R) := hM
  have hk1 : (r.kind == 1) = false := by simp [hk]
  have HB3 : Hid (Below w.heap.size w V1) := HB1.out
  have HS3 : Hid (SW w 33 (m.map B8) (rdL r) V1) := HSW.out
  have HM3 : Hid (V1.rangeAt w.heap.size 0 (m.map B8)) := PC.rangeAt_row HS3.out.m
  have HR3 : Hid (V1.rangeAt (w.heap.size + 1) 0 (rdL r)) := PC.rangeAt_row HS3.out.r
  rw [hV1] at HB3 HS3 HM3 HR3
  clear hM hZL hb1 hs1 hr0 hr1 hr2 hm hr hk hV1 HR2 HB1 HSW
  generalize rdL r = RL at *
  generalize m.map B8 = ML at *
  generalize r.kind = kd at *
  go_enter Tryz.func7, Tryz.ntmps7
  go_wp2_with (first
    | (refine wpList_load_mid rfl 24 _ rfl w.heap.size 0 rfl ML _ HM3.out Tryz.underlying24 rfl HMI.out ?_)
    | (refine wpList_load_mid rfl 33 _ rfl (w.heap.size + 1) 0 rfl RL _ HR3.out Tryz.underlying33 rfl HRI.out ?_))
  refine Calls.mono (HMC.out _ HB3.out) ?_
  rintro e w5 ⟨A, n, hA, rfl, hR, hk⟩
  have hS5 := HS3.out.keep hk
  have hYz : w.heap.size + 1 + 1 < (((w.alloc (.cells ML.toArray 24 (0, 0))).alloc (.cells RL.toArray 33 (0, 0))).alloc (.cells ZL.toArray 24 (0, 0))).heap.size := by obtain ⟨Z, _, h⟩ := HS3.out.z; exact PC.row_lt h
  obtain ⟨Z5, hz51, hz52⟩ := hS5.z
  have HAS : Hid ((A.map B8).toArray.size = 32) := by show _ = _; simpa using hA
  have HA1 : Hid _ := R5.B8_onea A
  have HR : Hid (R (((w.alloc (.cells ML.toArray 24 (0, 0))).alloc (.cells RL.toArray 33 (0, 0))).alloc (.cells ZL.toArray 24 (0, 0))) (.tuple #[.agg (A.map B8).toArray, .int .i64 n]) w5) := hR
  have HZ5 : Hid (w5.heap[w.heap.size + 1 + 1]? = some (.cells Z5 24 (0, 0))) := hz52
  have HZ6 : Hid (Z5.size = 32) := hz51
  clear hk hA hR HMC hS5 hz51 hz52
  generalize (A.map B8).toArray = AA at *
  go_wp2_with (refine wpList_store_row rfl 24 _ _ rfl (w.heap.size + 1 + 1) AA rfl rfl 24 Z5 HZ5.out (R5.info32a _ HAS.out) (HZ6.out.trans HAS.out.symm) HA1.out ?_)
  refine bodyPost_ret (v := .tuple #[.agg AA, .int .i64 n]) ?_ rfl ⟨(((w.alloc (.cells ML.toArray 24 (0, 0))).alloc (.cells RL.toArray 33 (0, 0))).alloc (.cells ZL.toArray 24 (0, 0))), _, w5, w.heap.size + 1 + 1, AA, rfl, HB3.out, by omega, hYz, HR.out, rfl⟩
  exact R5.results_dig2 Tryz.results7 _ _ (w.heap.size + 1 + 1) 24 _ (0, 0) _ rfl rfl (setRow_heap _ _ _ _ _ _ HZ5.out) (R5.info32a _ HAS.out)
end Go.Proofs.YtpmknkagnkagpaaGreat.ZC
