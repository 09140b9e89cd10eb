/- blob: granules; Mix of the program and of the document. -/
import Derived.Test.YtbmmibmfjhehhaaGreatAy
import Derived.Test.YtbmmibmfjhehhaaGreatBB
set_option linter.unusedVariables false
set_option linter.unusedSimpArgs false
namespace Go.Proofs.YtbmmibmfjhehhaaGreat.BC
open Go.RowKit

def Z128 : List UInt8 := List.replicate 128 0
theorem z128_len : Z128.length = 128 := List.length_replicate
theorem zero_gr (w : World) : (zeroValue 29).run Tryz.prog w = .ok (.agg (Z128.map B8).toArray) w := by kernel_rfl
theorem build_gr (w : World) : (Instr.build 29 #[]).run Tryz.prog w = .ok (.agg (Z128.map B8).toArray) w := by kernel_rfl
theorem info128 (L : List Value) (h : L.length = 128) : (Tryz.prog.info? 29).map (·.size) = some L.length := by rw [h]; kernel_rfl
theorem info128a (L : List Value) (h : L.length = 128) : (Tryz.prog.info? 29).map (·.size) = some L.toArray.size := by rw [List.size_toArray, h]; kernel_rfl
theorem eq_gr (w : World) (xs ys : List UInt8) (hx : xs.length = 128) (hy : ys.length = 128) (b : Bool) (h : (xs == ys) = b) : (Op.equalIn 10000 29 (.agg (xs.map B8).toArray) (.agg (ys.map B8).toArray)).run Tryz.prog w = .ok b w := by
  rw [← h]; exact run_equalIn_bytes (P := Tryz.prog) w 9998 29 5 128 Tryz.underlying29 Tryz.underlying5 size_u8 xs ys hx hy
theorem index_128 (KA : Array Value) (n : Nat) (x : UInt8) (k : IntKind) (w : World) (h : n < 128) (hs : KA.size = 128) (hka : KA[n]? = some (.int .u8 (x.toNat : Int))) : (Instr.index 29 (.agg KA) (.int k (n : Int))).run Tryz.prog w = .ok (.int .u8 (x.toNat : Int)) w := by
  obtain ⟨i0, hi, hz0, hz1, hz2⟩ := info_parts Tryz.infoU8
  have h0 : ¬ (n : Int) < 0 := by omega
  have h1 : ¬ (128 : Int) ≤ (n : Int) := by omega
  have hn : (n : Int).toNat = n := by omega
  simp [Instr.index, run_underlying Tryz.underlying29, asIntOf, hka, h0, h1, hn, sizeOf, typeInfo, hi, hz1]
  rw [if_pos h]
  simp [Go.part, sizeOf, typeInfo, hi, hz1, hka]
def mx (a b : List UInt8) : List UInt8 := AE.xrA a b
theorem mx_len (a b : List UInt8) (ha : a.length = 128) (hb : b.length = 128) : (mx a b).length = 128 := AE.xrA_len a b 128 ha hb
theorem mx_self : ∀ (a : List UInt8), mx a a = List.replicate a.length 0
  | [] => rfl
  | x :: a => by
    have ih := mx_self a
    unfold mx AE.xrA at ih ⊢
    rw [List.zipWith_cons_cons, ih, UInt8.xor_self, List.length_cons, List.replicate_succ]
theorem mx_zero : ∀ (a : List UInt8) (n : Nat), a.length = n → mx (List.replicate n 0) a = a
  | [], n, h => by subst h; rfl
  | x :: a, n, h => by
    subst h
    have ih := mx_zero a a.length rfl
    unfold mx AE.xrA at ih ⊢
    rw [List.length_cons, List.replicate_succ, List.zipWith_cons_cons, ih, UInt8.zero_xor]

set_option maxHeartbeats 4000000 in
set_option maxRecDepth 100000 in
theorem pmix_any (a b : List UInt8) (w : World) (ha : a.length = 128) (hb : b.length = 128) :
    Calls Tryz.prog 20 #[.agg (a.map B8).toArray, .agg (b.map B8).toArray] w fun e w' => e = .returned (.agg ((mx a b).map B8).toArray) ∧ Below w.heap.size w w' := by
  have hx := mx_len a b ha hb
  have HLN : Hid ((mx a b).length = 128) := hx
  have HPS : Hid (∀ k, k < 128 → (AE.spart (mx a b) a k).set k (a.getD k 0 ^^^ b.getD k 0) = AE.spart (mx a b) a (k + 1)) := fun k hk => by
    have := AE.spart_set (mx a b) a 128 k hx ha hk
    rw [show (mx a b).getD k 0 = a.getD k 0 ^^^ b.getD k 0 from AE.xrA_get a b 128 k ha hb hk] at this
    exact this
  have HPG : Hid (∀ k, k < 128 → ((AE.spart (mx a b) a k).map B8).toArray[k]? = some (.int .u8 ((a.getD k 0).toNat : Int))) := fun k hk => by
    rw [AE.row_get _ 128 (AE.spart_len _ _ 128 k hx ha (by omega)) k hk, AE.spart_get _ _ 128 k hx ha hk]
  have HPA : Hid (AE.spart (mx a b) a 128 = mx a b) := AE.spart_all _ _ 128 hx ha
  have HBG : Hid _ := AE.row_get b 128 hb
  have HP0 : Hid (AE.spart (mx a b) a 0 = a) := AE.spart_zero _ _
  obtain ⟨AA, hAA⟩ : ∃ AA, AA = (a.map B8).toArray := ⟨_, rfl⟩
  obtain ⟨BL, hBL⟩ : ∃ BL, BL = b.map B8 := ⟨_, rfl⟩
  have hzg := fun W => zero_gr W
  obtain ⟨ZL, hZL⟩ : ∃ L, L = Z128.map B8 := ⟨_, rfl⟩
  rw [← hZL] at hzg
  have HZS : Hid (ZL.toArray.size = 128) := by show _ = _; rw [hZL]; simp [z128_len]
  have hBS : BL.length = 128 := by rw [hBL]; simp [hb]
  rw [← hAA, ← hBL]
  have HBI : Hid _ := info128a BL hBS
  have HBS : Hid (BL.toArray.size = 128) := by show _ = _; simpa using hBS
  have HBA : Hid (BL.toArray = (b.map B8).toArray) := by show _ = _; rw [hBL]
  have HST : Hid (AE.F3 w 29 (AE.spart (mx a b) a 0) (.cells BL.toArray 29 (0, 0)) (.cells ZL.toArray 29 (0, 0)) (((w.alloc (.cells AA 29 (0, 0))).alloc (.cells BL.toArray 29 (0, 0))).alloc (.cells ZL.toArray 29 (0, 0)))) := AE.F3.start _ _ _ _ _ (by rw [HP0.out, hAA])
  clear ha hb hAA hBL hBS hx hZL
  go_enter Tryz.func20, Tryz.ntmps20
  go_wp2_with (first
    | (refine wpList_load_row rfl 29 _ rfl (w.heap.size + 1) rfl 29 BL.toArray (0, 0) _ HST.out.2.1 Tryz.underlying29 rfl HBI.out ?_))
  go_loopw [8] (fun i wr => ∃ k : Nat, k ≤ 128 ∧ i = .int .i64 k ∧ AE.F3 w 29 (AE.spart (mx a b) a k) (.cells BL.toArray 29 (0, 0)) (.cells ZL.toArray 29 (0, 0)) wr) (fun i _ => 128 - (intOf i).toNat)
  case atStart => exact ⟨0, by omega, rfl, HST.out⟩
  case round =>
    clear HST
    obtain ⟨k, hk, rfl, hM⟩ := hrel
    by_cases hlt : k < 128
    · have hkI : (k : Int) < 128 := by omega
      have HS : Hid (AE.F3 w 29 (AE.spart (mx a b) a (k + 1)) (.cells BL.toArray 29 (0, 0)) (.cells ZL.toArray 29 (0, 0)) (wr.setCell ⟨w.heap.size, k, none⟩ (.int .u8 (((a.getD k 0 ^^^ b.getD k 0).toNat : Nat) : Int)))) := by
        show AE.F3 _ _ _ _ _ _
        rw [← HPS.out k hlt]; exact hM.set _ _
      have g1 := cell_of_row _ _ k _ _ _ hM.1
      rw [HPG.out k hlt] at g1
      have g3 := frozen_of_row _ _ k _ _ hM.1
      have hix := index_128 BL.toArray k (b.getD k 0) .i64 wr hlt HBS.out (by rw [HBA.out]; exact HBG.out k hlt)
      generalize a.getD k 0 = x at *
      generalize b.getD k 0 = y at *
      have hxy := AE.xor_u8' x y
      clear hM
      go_wp2
      go_roundw
      case rel => exact ⟨k + 1, by omega, by go_num, HS.out⟩
      case measure => simp [intOf]; omega
    · have hk0 := hlt
      have hk' : k = 128 := by omega
      have hlt' : ¬ (k : Int) < 128 := by omega
      rw [hk'] at hM
      obtain ⟨h1, h2, h3, h4⟩ := hM
      rw [HPA.out] at h1
      obtain ⟨RS, hRS⟩ : ∃ RS, RS = (mx a b).map B8 := ⟨_, rfl⟩
      have hr8 : RS.length = 128 := by rw [hRS]; simp [HLN.out]
      have HRI : Hid _ := info128a RS hr8
      have HR1 : Hid (RS.toArray.all (·.oneCell') = true) := by show _ = _; rw [hRS]; exact B8_onea _
      rw [← hRS] at h1
      have HT' : Hid _ := h1
      have HR : Hid _ := h3
      have HR8 : Hid (ZL.toArray.size = RS.toArray.size) := HZS.out.trans (by simpa using hr8.symm)
      have HRS : Hid _ := hRS
      clear h1 h2 h3 hr8 hRS hk'
      go_wp2_with (first
        | (refine wpList_load_row rfl 29 _ rfl w.heap.size rfl 29 _ (0, 0) _ HT'.out Tryz.underlying29 rfl HRI.out ?_)
        | (refine wpList_store_row rfl 29 _ _ rfl (w.heap.size + 1 + 1) _ rfl rfl 29 _ HR.out HRI.out HR8.out HR1.out ?_))
      refine bodyPost_ret (v := .agg RS.toArray) ?_ rfl ⟨by rw [HRS.out], below_setRow h4 (by omega) _⟩
      exact results_cell_row Tryz.results20 _ _ (w.heap.size + 1 + 1) 29 _ (0, 0) _ rfl (setRow_heap _ _ _ _ _ _ HR.out) Tryz.underlying29 rfl HRI.out
set_option maxHeartbeats 4000000 in
set_option maxRecDepth 100000 in
theorem rmix_any (a b : List UInt8) (w : World) (ha : a.length = 128) (hb : b.length = 128) :
    Calls Tryz.prog 26 #[.agg (a.map B8).toArray, .agg (b.map B8).toArray] w fun e w' => e = .returned (.agg ((mx a b).map B8).toArray) ∧ Below w.heap.size w w' := by
  have hx := mx_len a b ha hb
  have HLN : Hid ((mx a b).length = 128) := hx
  have HPS : Hid (∀ k, k < 128 → (AE.spart (mx a b) a k).set k (a.getD k 0 ^^^ b.getD k 0) = AE.spart (mx a b) a (k + 1)) := fun k hk => by
    have := AE.spart_set (mx a b) a 128 k hx ha hk
    rw [show (mx a b).getD k 0 = a.getD k 0 ^^^ b.getD k 0 from AE.xrA_get a b 128 k ha hb hk] at this
    exact this
  have HPG : Hid (∀ k, k < 128 → ((AE.spart (mx a b) a k).map B8).toArray[k]? = some (.int .u8 ((a.getD k 0).toNat : Int))) := fun k hk => by
    rw [AE.row_get _ 128 (AE.spart_len _ _ 128 k hx ha (by omega)) k hk, AE.spart_get _ _ 128 k hx ha hk]
  have HPA : Hid (AE.spart (mx a b) a 128 = mx a b) := AE.spart_all _ _ 128 hx ha
  have HBG : Hid _ := AE.row_get b 128 hb
  have HP0 : Hid (AE.spart (mx a b) a 0 = a) := AE.spart_zero _ _
  obtain ⟨AA, hAA⟩ : ∃ AA, AA = (a.map B8).toArray := ⟨_, rfl⟩
  obtain ⟨BL, hBL⟩ : ∃ BL, BL = b.map B8 := ⟨_, rfl⟩
  have hzg := fun W => zero_gr W
  obtain ⟨ZL, hZL⟩ : ∃ L, L = Z128.map B8 := ⟨_, rfl⟩
  rw [← hZL] at hzg
  have HZS : Hid (ZL.toArray.size = 128) := by show _ = _; rw [hZL]; simp [z128_len]
  have hBS : BL.length = 128 := by rw [hBL]; simp [hb]
  rw [← hAA, ← hBL]
  have HBI : Hid _ := info128a BL hBS
  have HBS : Hid (BL.toArray.size = 128) := by show _ = _; simpa using hBS
  have HBA : Hid (BL.toArray = (b.map B8).toArray) := by show _ = _; rw [hBL]
  have HST : Hid (AE.F3 w 29 (AE.spart (mx a b) a 0) (.cells BL.toArray 29 (0, 0)) (.cells ZL.toArray 29 (0, 0)) (((w.alloc (.cells AA 29 (0, 0))).alloc (.cells BL.toArray 29 (0, 0))).alloc (.cells ZL.toArray 29 (0, 0)))) := AE.F3.start _ _ _ _ _ (by rw [HP0.out, hAA])
  clear ha hb hAA hBL hBS hx hZL
  go_enter Tryz.func26, Tryz.ntmps26
  go_wp2
  go_loopw [5] (fun i wr => ∃ k : Nat, k ≤ 128 ∧ i = .int .i64 k ∧ AE.F3 w 29 (AE.spart (mx a b) a k) (.cells BL.toArray 29 (0, 0)) (.cells ZL.toArray 29 (0, 0)) wr) (fun i _ => 128 - (intOf i).toNat)
  case atStart => exact ⟨0, by omega, rfl, HST.out⟩
  case round =>
    clear HST
    obtain ⟨k, hk, rfl, hM⟩ := hrel
    by_cases hlt : k < 128
    · have hkI : (k : Int) < 128 := by omega
      have HS : Hid (AE.F3 w 29 (AE.spart (mx a b) a (k + 1)) (.cells BL.toArray 29 (0, 0)) (.cells ZL.toArray 29 (0, 0)) ((wr.setCell ⟨w.heap.size, k, none⟩ (.int .u8 (((a.getD k 0 ^^^ b.getD k 0).toNat : Nat) : Int))).drew)) := by
        show AE.F3 _ _ _ _ _ _
        rw [← HPS.out k hlt]
        have hd := hM.set k (a.getD k 0 ^^^ b.getD k 0)
        exact ⟨hd.1, hd.2.1, hd.2.2.1, hd.2.2.2.drew⟩
      have g1 := cell_of_row _ _ k _ _ _ hM.1
      rw [HPG.out k hlt] at g1
      have g2 := cell_of_row _ _ k _ _ _ hM.2.1
      rw [HBA.out, HBG.out k hlt] at g2
      have g3 := frozen_of_row _ _ k _ _ hM.1
      generalize a.getD k 0 = x at *
      generalize b.getD k 0 = y at *
      have hxy := AE.xor_u8' x y
      clear hM
      go_wp2
      go_region
      all_goals
        go_wp2
        go_roundw
        case rel => exact ⟨k + 1, by omega, by go_num, HS.out⟩
        case measure => simp [intOf]; omega
    · have hk0 := hlt
      have hk' : k = 128 := by omega
      have hlt' : ¬ (k : Int) < 128 := by omega
      rw [hk'] at hM
      obtain ⟨h1, h2, h3, h4⟩ := hM
      rw [HPA.out] at h1
      obtain ⟨RS, hRS⟩ : ∃ RS, RS = (mx a b).map B8 := ⟨_, rfl⟩
      have hr8 : RS.length = 128 := by rw [hRS]; simp [HLN.out]
      have HRI : Hid _ := info128a RS hr8
      have HR1 : Hid (RS.toArray.all (·.oneCell') = true) := by show _ = _; rw [hRS]; exact B8_onea _
      rw [← hRS] at h1
      have HT' : Hid _ := h1
      have HR : Hid _ := h3
      have HR8 : Hid (ZL.toArray.size = RS.toArray.size) := HZS.out.trans (by simpa using hr8.symm)
      have HRS : Hid _ := hRS
      clear h1 h2 h3 hr8 hRS hk'
      go_wp2_with (first
        | (refine wpList_load_row rfl 29 _ rfl w.heap.size rfl 29 _ (0, 0) _ HT'.out Tryz.underlying29 rfl HRI.out ?_)
        | (refine wpList_store_row rfl 29 _ _ rfl (w.heap.size + 1 + 1) _ rfl rfl 29 _ HR.out HRI.out HR8.out HR1.out ?_))
      refine bodyPost_ret (v := .agg RS.toArray) ?_ rfl ⟨by rw [HRS.out], below_setRow h4 (by omega) _⟩
      exact results_cell_row Tryz.results26 _ _ (w.heap.size + 1 + 1) 29 _ (0, 0) _ rfl (setRow_heap _ _ _ _ _ _ HR.out) Tryz.underlying29 rfl HRI.out
end Go.Proofs.YtbmmibmfjhehhaaGreat.BC
