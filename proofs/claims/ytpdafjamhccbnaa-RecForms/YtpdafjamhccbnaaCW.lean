/- rec: the mathematics of forms there and back. -/
import Derived.Test.YtpdafjamhccbnaaCT
import Derived.Test.YtpdafjamhccbnaaCU
import Derived.Test.YtpdafjamhccbnaaCV
set_option linter.unusedVariables false
set_option linter.unusedSimpArgs false
namespace Go.Proofs.Ytpdafjamhccbnaa.VC
open Go.RowKit

theorem gr_inj {A B : List Int} (hA : A.length = 16) (hB : B.length = 16) (uA : ∀ x ∈ A, u64 x) (uB : ∀ x ∈ B, u64 x) (h : gr A = gr B) : A = B := by
  rw [← ws_gr A hA uA, ← ws_gr B hB uB, h]
/-- What comes in, there and back. -/
theorem inN_gr {ns : List Int} (h : nok ns) : inN (gr (ns ++ Z12)) = ns := by
  unfold inN
  rw [ws_gr _ (in_len h.len) (in_u h), List.take_left' h.len]
theorem inF_gr {ns : List Int} (h : nok ns) : inF (gr (ns ++ Z12)) = true := by
  unfold inF
  rw [inN_gr h]; simp
theorem gr_z12 : gr Z12 = List.replicate 96 0 := by decide +kernel
theorem gr_in (G : List UInt8) (hG : G.length = 128) : gr (inN G ++ Z12) = G.take 32 ++ List.replicate 96 0 := by
  rw [gr_append, gr_z12]
  congr 1
  have h1 := gr_ws G hG
  rw [← List.take_append_drop 4 (ws G), gr_append] at h1
  have h2 : (gr (List.take 4 (ws G))).length = 32 := by rw [gr_len, List.length_take, ws_len]; rfl
  conv => rhs; rw [← h1]
  rw [List.take_left' h2]
  rfl
/-- Are the bytes from 32 on noughts, up to k? -/
def fz (G : List UInt8) (k : Nat) : Bool := (List.range k).all fun j => decide (j < 32) || G.getD j 0 == 0
theorem fz_32 (G : List UInt8) : fz G 32 = true := by
  unfold fz
  rw [List.all_eq_true]
  intro j hj
  have : j < 32 := by simpa using hj
  simp [this]
theorem fz_step (G : List UInt8) (k : Nat) (h : 32 ≤ k) : fz G (k + 1) = (fz G k && (G.getD k 0 == 0)) := by
  unfold fz
  rw [List.range_succ, List.all_append]
  simp [show ¬ k < 32 by omega]
theorem fz_all (G : List UInt8) (hG : G.length = 128) : fz G 128 = inF G := by
  unfold inF
  rw [gr_in G hG, Bool.eq_iff_iff, beq_iff_eq]
  unfold fz
  rw [List.all_eq_true]
  constructor
  · intro h
    apply List.ext_getElem?
    intro j
    by_cases h1 : j < 32
    · rw [List.getElem?_append_left (by rw [List.length_take]; omega), List.getElem?_take_of_lt h1]
    · by_cases h2 : j < 128
      · have h3 := h j (by simpa using h2)
        have h4 : j < G.length := by omega
        have h5 : G[j] = 0 := by simpa [h1, List.getD, List.getElem?_eq_getElem h4] using h3
        rw [List.getElem?_append_right (by rw [List.length_take]; omega), List.length_take, List.getElem?_replicate, if_pos (by omega), List.getElem?_eq_getElem h4, h5]
      · rw [List.getElem?_eq_none (by simp; omega), List.getElem?_eq_none (by omega)]
  · intro h j hj
    have h2 : j < 128 := by simpa using hj
    by_cases h1 : j < 32
    · simp [h1]
    · have h4 : j < G.length := by omega
      have h5 : (List.take 32 G ++ List.replicate 96 0)[j]? = G[j]? := by rw [h]
      rw [List.getElem?_append_right (by rw [List.length_take]; omega), List.length_take, List.getElem?_replicate, if_pos (by omega), List.getElem?_eq_getElem h4] at h5
      have h6 : G[j] = 0 := (Option.some.inj h5).symm
      simp [List.getD, List.getElem?_eq_getElem h4, h6]
/-- What is told, there and back. -/
theorem ow_at {o : Ot} (h : o.ns.length = 4) : (ow o).getD 0 0 = o.re ∧ ((ow o).drop 1).take 4 = o.ns ∧ (ow o).getD 5 0 = o.ad ∧ (ow o).getD 6 0 = (if o.wr = true then 1 else 0) ∧ (ow o).getD 7 0 = o.ran := by
  obtain ⟨a, b, c, d, hk⟩ := four h
  unfold ow
  rw [hk]
  exact ⟨rfl, rfl, rfl, rfl, rfl⟩
theorem wrap_small (x : Int) (h0 : 0 ≤ x) (h1 : x ≤ 10000) : IntKind.i64.wrap x = x := by rw [IntKind.wrap_i64]; omega
theorem oo_gr {o : Ot} (ho : ook o) (hm : VC.mt o = true) : oo (gr (ow o)) = o := by
  have h4 := ho.n.len
  have hl := ow_len h4
  have hu := ow_u ho hm
  obtain ⟨a0, a1, a5, a6, a7⟩ := ow_at h4
  obtain ⟨b1, b2, b3⟩ := mt_bd hm
  unfold oo
  rw [ws_gr _ hl hu, wo_gr _ hu 0 (by omega), wo_gr _ hu 5 (by omega), wo_gr _ hu 6 (by omega), wo_gr _ hu 7 (by omega), a0, a1, a5, a6, a7, wrap_small o.re (by omega) (by omega), wrap_small o.ran b2 b3]
  obtain ⟨re, ns, ad, wb, ran⟩ := o
  cases wb <;> rfl
theorem ooF_gr {o : Ot} (ho : ook o) (hm : VC.mt o = true) : ooF (gr (ow o)) = true := by
  unfold ooF; rw [oo_gr ho hm, hm]; simp
/-- What the statement makes of a granule. -/
def zz (G : List UInt8) : Ot := ⟨wo G 0 % 8, ((ws G).drop 1).take 4, wo G 5, wo G 6 == 1, wo G 7 % 20000⟩
theorem zz_ok (G : List UInt8) : ook (zz G) := by
  have h0 := wo_u G 0
  have h7 := wo_u G 7
  unfold u64 at h0 h7
  refine ⟨⟨?_, fun x hx => ?_⟩, wo_u G 5, ?_, ?_⟩
  · unfold zz; simp [ws_len]
  · exact ws_u G x (List.mem_of_mem_drop (List.mem_of_mem_take hx))
  · simp [zz, Lit.wf, IntKind.min, IntKind.max, IntKind.signed, IntKind.bits]; omega
  · simp [zz, Lit.wf, IntKind.min, IntKind.max, IntKind.signed, IntKind.bits]; omega
/-- Two that are made of one granule's words, where one has them all. -/
theorem zz_oo (G : List UInt8) (o : Ot) (ho : ook o) (hm : VC.mt o = true) (h : gr (ow o) = G) : zz G = o ∧ oo G = o := by
  have h4 := ho.n.len
  have hl := ow_len h4
  have hu := ow_u ho hm
  obtain ⟨a0, a1, a5, a6, a7⟩ := ow_at h4
  obtain ⟨b1, b2, b3⟩ := mt_bd hm
  refine ⟨?_, by rw [← h]; exact oo_gr ho hm⟩
  rw [← h]
  unfold zz
  rw [ws_gr _ hl hu, wo_gr _ hu 0 (by omega), wo_gr _ hu 5 (by omega), wo_gr _ hu 6 (by omega), wo_gr _ hu 7 (by omega), a0, a1, a5, a6, a7, show o.re % 8 = o.re by omega, show o.ran % 20000 = o.ran by omega]
  obtain ⟨re, ns, ad, wb, ran⟩ := o
  cases wb <;> rfl
theorem zz_yes (G : List UInt8) (hm : VC.mt (zz G) = true) (h : gr (ow (zz G)) = G) : ooF G = true ∧ oo G = zz G := by
  obtain ⟨_, h2⟩ := zz_oo G (zz G) (zz_ok G) hm h
  refine ⟨?_, h2⟩
  unfold ooF; rw [h2, hm, h]; simp
theorem zz_no (G : List UInt8) (h : (VC.mt (zz G) && (gr (ow (zz G)) == G)) = false) : ooF G = false := by
  cases hq : ooF G with
  | false => rfl
  | true =>
    exfalso
    unfold ooF at hq
    rw [Bool.and_eq_true, beq_iff_eq] at hq
    obtain ⟨h1, _⟩ := zz_oo G (oo G) (oo_ok G) hq.1 hq.2
    rw [h1, hq.1, hq.2] at h
    simp at h
end Go.Proofs.Ytpdafjamhccbnaa.VC
