/- blob: the stream in ideal mode; ones; the chapter's rows. -/
import Derived.Test.YtbmmibmfjhehhaaGreatBG
set_option linter.unusedVariables false
set_option linter.unusedSimpArgs false
namespace Go.Proofs.YtbmmibmfjhehhaaGreat.BC
open Go.RowKit

theorem strQ_ok (key data : List UInt8) (hk : key.length = 32) (hd : data.length ≤ 1000000) : R5.kOk ⟨4, key, 10, data⟩ ∧ R5.strB ⟨4, key, 10, data⟩ 128 = true :=
  ⟨⟨hk, rfl, rfl, by show data.length ≤ _; omega⟩, rfl⟩
def stI (o : R5.Pra) (q : R5.Qn) : List UInt8 × R5.Pra := ((R5.PS.str q o 4).1.take 128, (R5.PS.str q o 4).2)
theorem stI_len {B og mb : Nat} {S : Nat → Prop} {w : World} {o : R5.Pra} {dv ov : Value} (h : R5.PO B og mb S w o dv ov) (q : R5.Qn) : (stI o q).1.length = 128 := by
  have := (R5.PS.str_len h q 4).1
  unfold stI
  rw [List.length_take, this]; decide
theorem pstr_I (B og mb : Nat) (S : Nat → Prop) (key data : List UInt8) (dq dv ov : Value) (o : R5.Pra) (w W : World) (hid : o.ideal = true) (hk : key.length = 32) (hd : data.length ≤ 1000000) (hB : B ≤ w.heap.size) (hll : o.log.length < 900000) (ho : R5.PO B og mb S w o dv ov) (hW : Below w.heap.size w W) (hdq : HB W dq data) (hown : ∀ j, dq.ownBlock = some j → w.heap.size ≤ j) :
    Calls Tryz.prog 38 #[.pointer (some ⟨og, 0, none⟩), .agg (R5.qL ⟨4, key, 10, data⟩ dq).toArray, .int .i64 128] W fun e w' => Pass (StT B og mb S (stI o ⟨4, key, 10, data⟩) dv) W e w' := by
  obtain ⟨h1, h2⟩ := strQ_ok key data hk hd
  refine (R5.PS.pstream_ideal B og mb S dq dv ov o ⟨4, key, 10, data⟩ 128 W hid (Nat.le_trans hB hW.size) hll (ho.below hW) h1 hd hdq (fun _ j e hS => by have := hown j e; have := ho.top j hS; omega) h2).mono ?_
  rintro e w' ⟨v, rfl, a1, a2, a3, a4⟩
  exact ⟨W, v, 0, Below.refl _ _, rfl, rfl, a1, a2, a3, a4⟩
def ones (n : UInt8) : List UInt8 := List.replicate 32 n
theorem ones_len (n : UInt8) : (ones n).length = 32 := List.length_replicate
set_option maxHeartbeats 1000000 in
set_option maxRecDepth 100000 in
theorem ones_any (n : UInt8) (w : World) : Calls Tryz.prog 19 #[.int .u8 (n.toNat : Int)] w fun e w' => e = .returned (.agg ((ones n).map B8).toArray) ∧ Below w.heap.size w w' := by
  have hz := fun W => R5.zero_dig W
  obtain ⟨ZL, hZL⟩ : ∃ L, L = (List.replicate 32 (0 : UInt8)).map B8 := ⟨_, rfl⟩
  rw [← hZL] at hz
  have HZS : Hid (ZL.length = 32) := by show _ = _; rw [hZL]; simp
  have HPS : Hid (∀ k, k < 32 → ((AE.spart (ones n) (List.replicate 32 0) k).map B8).set k (.int .u8 (n.toNat : Int)) = (AE.spart (ones n) (List.replicate 32 0) (k + 1)).map B8) := fun k hk => by
    rw [← AE.spart_set (ones n) (List.replicate 32 0) 32 k (ones_len n) List.length_replicate hk, List.map_set, show (ones n).getD k 0 = n by unfold ones; rw [List.getD, List.getElem?_replicate, if_pos hk]; rfl]
    rfl
  have HPN : Hid (∀ k, k ≤ 32 → ((AE.spart (ones n) (List.replicate 32 0) k).map B8).length = 32) := fun k hk => by rw [List.length_map]; exact AE.spart_len _ _ 32 k (ones_len n) List.length_replicate hk
  have HP0 : Hid ((AE.spart (ones n) (List.replicate 32 0) 0).map B8 = ZL) := by show _ = _; rw [AE.spart_zero, hZL]
  have HPA : Hid (AE.spart (ones n) (List.replicate 32 0) 32 = ones n) := AE.spart_all _ _ 32 (ones_len n) List.length_replicate
  have HON : Hid (((ones n).map B8).length = 32) := by show _ = _; simp [ones_len]
  have HO1 : Hid _ := B8_onea (ones n)
  have HT0 : Hid _ := ((RS.start w).alloc w.heap.size rfl 23 ZL).alloc (w.heap.size + 1) (by simp) 23 ZL
  clear hZL
  go_enter Tryz.func19, Tryz.ntmps19
  go_upto_region 2 with fail
  generalize World.alloc _ _ = X0 at *
  go_wp2
  go_loopw [4] (fun i wr => ∃ k : Nat, k ≤ 32 ∧ i = .int .i64 k ∧ RS w [(w.heap.size + 1, 23, (AE.spart (ones n) (List.replicate 32 0) k).map B8), (w.heap.size, 23, ZL)] wr) (fun i _ => 32 - (intOf i).toNat)
  case atStart => exact ⟨0, by omega, rfl, by rw [HP0.out]; exact HT0.out⟩
  case round =>
    clear HT0
    obtain ⟨k, hk, rfl, hM⟩ := hrel
    by_cases hlt : k < 32
    · have hkI : (k : Int) < 32 := by omega
      have HS : Hid _ := hM.poke 0 rfl k (.int .u8 (n.toNat : Int)) (HPS.out k hlt)
      obtain ⟨u, hu⟩ : ∃ u, ((AE.spart (ones n) (List.replicate 32 0) k).map B8)[k]? = some (.int .u8 u) := by
        have hl : k < (AE.spart (ones n) (List.replicate 32 0) k).length := by have := HPN.out k hk; rw [List.length_map] at this; omega
        exact ⟨_, by rw [List.getElem?_map, List.getElem?_eq_getElem hl]; rfl⟩
      have g1 := hM.cell 0 rfl k hu
      have g3 := frozen_of_row _ _ k _ _ (hM.at 0 rfl)
      clear hM hu
      go_wp2
      go_roundw
      case rel => exact ⟨k + 1, by omega, by go_num, HS.out⟩
      case measure => simp [intOf]; omega
    · have hk' : k = 32 := by omega
      have hlt' : ¬ (k : Int) < 32 := by omega
      subst hk'
      rw [HPA.out] at hM
      have HM : Hid _ := hM
      clear hM
      generalize hOL : (ones n).map B8 = OL at *
      have HOE : Hid ((ones n).map B8 = OL) := hOL
      clear hOL
      go_wp2_with (first
        | (refine wpList_load_mid rfl 23 _ rfl (w.heap.size + 1) 0 rfl OL _ (rangeAt_row (HM.out.at 0 rfl)) Tryz.underlying23 rfl (R5.info32 OL HON.out) ?_)
        | (refine R5.wpList_store_rowL rfl 23 _ _ rfl w.heap.size OL.toArray rfl rfl 23 ZL.toArray (HM.out.at 1 rfl) (R5.info32a _ (by simp [HON.out])) (by simp [HON.out, HZS.out]) HO1.out ?_; intro X2 e2; have HT2 : Hid _ := HM.out.put 1 rfl OL; rw [← e2] at HT2; clear e2))
      refine bodyPost_ret (v := .agg OL.toArray) ?_ rfl ⟨by rw [HOE.out], HT2.out.bel⟩
      exact results_cell_row Tryz.results19 _ _ w.heap.size 23 _ (0, 0) _ rfl (HT2.out.at 1 rfl) Tryz.underlying23 rfl (R5.info32a _ (by simp [HON.out]))
end Go.Proofs.YtbmmibmfjhehhaaGreat.BC
