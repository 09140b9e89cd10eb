/- Contracts of aes's allSubs, backwards, Unsub. -/
import Derived.Test.YtjohckgdbbhpdaaN7
import Derived.Test.YtjohckgdbbhpdaaF7
set_option linter.unusedVariables false
set_option linter.unusedSimpArgs false
namespace Go.Proofs.Ytjohckgdbbhpdaa
open Go.RowKit

/-- A byte of an array that is a value. -/
theorem index_256 (KA : Array Value) (n : Nat) (x : UInt8) (k : IntKind) (w : World) (h : n < 256) (hs : KA.size = 256) (hka : KA[n]? = some (.int .u8 (x.toNat : Int))) : (Instr.index 27 (.agg KA) (.int k (n : Int))).run Try.prog w = .ok (.int .u8 (x.toNat : Int)) w := by
  obtain ⟨i0, hi, hz0, hz1, hz2⟩ := info_parts Try.infoU8
  have h0 : ¬ (n : Int) < 0 := by omega
  have h1 : ¬ (256 : Int) ≤ (n : Int) := by omega
  have hn : (n : Int).toNat = n := by omega
  simp [Instr.index, run_underlying Try.underlying27, asIntOf, hka, h0, h1, hn, sizeOf, typeInfo, hi, hz1]
  rw [if_pos h]
  simp [Go.part, sizeOf, typeInfo, hi, hz1, hka]
theorem index_16 (KA : Array Value) (n : Nat) (x : UInt8) (k : IntKind) (w : World) (h : n < 16) (hs : KA.size = 16) (hka : KA[n]? = some (.int .u8 (x.toNat : Int))) : (Instr.index 26 (.agg KA) (.int k (n : Int))).run Try.prog w = .ok (.int .u8 (x.toNat : Int)) w := by
  obtain ⟨i0, hi, hz0, hz1, hz2⟩ := info_parts Try.infoU8
  have h0 : ¬ (n : Int) < 0 := by omega
  have h1 : ¬ (16 : Int) ≤ (n : Int) := by omega
  have hn : (n : Int).toNat = n := by omega
  simp [Instr.index, run_underlying Try.underlying26, asIntOf, hka, h0, h1, hn, sizeOf, typeInfo, hi, hz1]
  rw [if_pos h]
  simp [Go.part, sizeOf, typeInfo, hi, hz1, hka]
theorem index_4 (KA : Array Value) (n : Nat) (x : UInt8) (k : IntKind) (w : World) (h : n < 4) (hs : KA.size = 4) (hka : KA[n]? = some (.int .u8 (x.toNat : Int))) : (Instr.index 52 (.agg KA) (.int k (n : Int))).run Try.prog w = .ok (.int .u8 (x.toNat : Int)) w := by
  obtain ⟨i0, hi, hz0, hz1, hz2⟩ := info_parts Try.infoU8
  have h0 : ¬ (n : Int) < 0 := by omega
  have h1 : ¬ (4 : Int) ≤ (n : Int) := by omega
  have hn : (n : Int).toNat = n := by omega
  simp [Instr.index, run_underlying Try.underlying52, asIntOf, hka, h0, h1, hn, sizeOf, typeInfo, hi, hz1]
  rw [if_pos h]
  simp [Go.part, sizeOf, typeInfo, hi, hz1, hka]

set_option maxHeartbeats 4000000 in
set_option maxRecDepth 100000 in
theorem pallSubs_any (w : World) : Calls Try.prog 33 #[] w fun e w' => e = .returned (.agg (tabA.map B8).toArray) ∧ Below w.heap.size w w' := by
  have hl := tabA_len
  have HG : Hid (∀ i, i < 256 → tabA.getD i 0 = sbP (UInt8.ofNat i)) := fun i hi => by rw [tabA_get i hi, sbA_sbP]
  have hsu := fun c W => psub_any c W
  have HSZ : Hid ((tabA.map B8).toArray.size = 256) := by show _ = _; simp [hl]
  have HONE : Hid _ := B8_onea tabA
  generalize tabA = T at *
  have HL : Hid _ := hl
  have hzv := fun W => zero256 W
  have hz0 : bpart 256 T 0 = List.replicate 256 0 := by unfold bpart; rw [List.take_zero, List.nil_append]
  rw [← hz0] at hzv
  obtain ⟨ZA, hZA⟩ : ∃ ZA, ZA = ((bpart 256 T 0).map B8).toArray := ⟨_, rfl⟩
  rw [← hZA] at hzv
  have HZA : Hid _ := hZA
  clear hl hz0 hZA
  go_enter Try.func33, Try.ntmps33
  go_wp2
  go_loopw [3] (fun i wr => ∃ k : Nat, k ≤ 256 ∧ i = .int .i64 k ∧ wr.heap[w.heap.size + 1]? = some (.cells ((bpart 256 T k).map B8).toArray 27 (0, 0)) ∧ wr.heap[w.heap.size]? = some (.cells ZA 27 (0, 0)) ∧ Below w.heap.size w wr) (fun i _ => 256 - (intOf i).toNat)
  case atStart => exact ⟨0, by omega, rfl, by rw [← HZA.out]; exact heap_alloc2_new _ _ _, alloc2_first _ _ _, ((Below.refl _ _).alloc (Nat.le_refl _) _).alloc (by simp) _⟩
  case round =>
    obtain ⟨k, hk, rfl, hT, hR, hbel⟩ := hrel
    have HT : Hid _ := hT
    have HR : Hid _ := hR
    by_cases hlt : k < 256
    · have hset := bpart_set 256 T k HL.out hlt
      obtain ⟨u, hu⟩ := bpart_cell 256 T k HL.out hlt
      have hcu := cell_of_row _ _ k _ _ _ hT
      rw [hu] at hcu
      have hfu := frozen_of_row _ _ k _ _ hT
      rw [HG.out k hlt] at hset
      obtain ⟨c, hc⟩ : ∃ c, c = UInt8.ofNat k := ⟨_, rfl⟩
      have hck : c.toNat = k := by rw [hc]; show _ % 256 = _; omega
      rw [← hc] at hset
      have hst := hsu c wr
      rw [hck] at hst
      have HX : Hid (B8 (sbP c) = .int .u8 ((sbP c).toNat : Int)) := rfl
      generalize sbP c = y at *
      have HSET : Hid _ := hset
      have hkI : (k : Int) < 256 := by omega
      clear hset hT hR hu hc hck
      go_wp2_with fail
      refine hst.mono ?_
      rintro e wx ⟨rfl, rfl⟩
      clear hst
      go_wp2
      go_roundw
      case rel =>
        refine ⟨k + 1, by omega, by go_num, ?_, ?_, hbel.setCell (p := ⟨w.heap.size + 1, k, none⟩) (by simp) _⟩
        · rw [← HSET.out, HX.out]; exact heap_setCell_same _ (w.heap.size + 1) k _ 27 _ HT.out
        · rw [heap_setCell_other _ _ _ _ (by simp)]; exact HR.out
      case measure => simp [intOf]; omega
    · have hk' : k = 256 := by omega
      rw [hk', bpart_all 256 T HL.out] at hT
      have HT' : Hid _ := hT
      have HI : Hid ((Try.prog.info? 27).map (·.size) = some (T.map B8).toArray.size) := by show _ = _; rw [HSZ.out]; kernel_rfl
      have HZ : Hid (ZA.size = (T.map B8).toArray.size) := by show _ = _; rw [HSZ.out, HZA.out]; simp [bpart_len 256 T 0 HL.out (by omega)]
      have HX : Hid (∃ TA, TA = (T.map B8).toArray) := ⟨_, rfl⟩
      obtain ⟨TA, hTA⟩ := HX.out
      rw [← hTA] at HI HZ HT'
      have HONE' : Hid _ := HONE.out
      rw [← hTA] at HONE'
      have HTA : Hid _ := hTA
      clear hT hR HT hk' hTA HX
      go_wp2_with (first
        | (refine wpList_load_row rfl 27 _ rfl (w.heap.size + 1) rfl 27 _ (0, 0) _ HT'.out Try.underlying27 rfl HI.out ?_)
        | (refine wpList_store_row rfl 27 _ _ rfl w.heap.size _ rfl rfl 27 _ HR.out HI.out HZ.out HONE'.out ?_))
      refine bodyPost_ret (v := .agg TA) ?_ rfl ⟨by rw [HTA.out], below_setRow hbel (Nat.le_refl _) _⟩
      exact results_cell_row Try.results33 _ _ w.heap.size 27 _ (0, 0) _ rfl (setRow_heap _ _ _ _ _ _ HR.out) Try.underlying27 rfl HI.out

/-- Three blocks of which the last is under way. -/
def B3 (w : World) (o0 o1 : Obj) (t : TypeId) (l : List UInt8) (wr : World) : Prop :=
  wr.heap[w.heap.size]? = some o0 ∧ wr.heap[w.heap.size + 1]? = some o1 ∧ wr.heap[w.heap.size + 1 + 1]? = some (.cells (l.map B8).toArray t (0, 0)) ∧ Below w.heap.size w wr
theorem B3.set {w : World} {o0 o1 : Obj} {t : TypeId} {l : List UInt8} {wr : World} (h : B3 w o0 o1 t l wr) (i : Nat) (x : UInt8) : B3 w o0 o1 t (l.set i x) (wr.setCell ⟨w.heap.size + 1 + 1, i, none⟩ (B8 x)) := by
  obtain ⟨h1, h2, h3, h4⟩ := h
  have hb := (Below.refl (w.heap.size + 1 + 1) wr).setCell (p := ⟨w.heap.size + 1 + 1, i, none⟩) (Nat.le_refl _) (B8 x)
  refine ⟨(hb.block _ (by omega)).trans h1, (hb.block _ (by omega)).trans h2, ?_, h4.setCell (p := ⟨w.heap.size + 1 + 1, i, none⟩) (by show w.heap.size ≤ w.heap.size + 1 + 1; omega) _⟩
  rw [← row_set]; exact heap_setCell_same _ (w.heap.size + 1 + 1) i _ t _ h3
theorem B3.start {w : World} (o0 o1 : Obj) (t : TypeId) (l : List UInt8) (A : Array Value) (hA : A = (l.map B8).toArray) : B3 w o0 o1 t l (((w.alloc o0).alloc o1).alloc (.cells A t (0, 0))) := by
  subst hA
  refine ⟨?_, ?_, heap_at _ _ _ (by simp), (((Below.refl _ _).alloc (Nat.le_refl _) _).alloc (by simp) _).alloc (by simp; omega) _⟩
  · rw [Below.heap_alloc _ _ _ (by simp; omega), Below.heap_alloc _ _ _ (by simp)]; exact heap_at _ _ _ rfl
  · rw [Below.heap_alloc _ _ _ (by simp)]; exact heap_at _ _ _ (by simp)

set_option maxHeartbeats 4000000 in
set_option maxRecDepth 100000 in
theorem pbackwards_any (t : List UInt8) (w : World) (ht : t.length = 256) : Calls Try.prog 32 #[.agg (t.map B8).toArray] w fun e w' => e = .returned (.agg ((bkA t).map B8).toArray) ∧ Below w.heap.size w w' := by
  have HBS : Hid (∀ n, bkR t (n + 1) = (bkR t n).set (t.getD n 0).toNat (UInt8.ofNat n)) := fun _ => rfl
  have HBL : Hid (∀ n, (bkR t n).length = 256) := bkR_len t
  have HB0 : Hid (bkR t 0 = List.replicate 256 0) := rfl
  have HBK : Hid (bkA t = bkR t 256) := rfl
  have HTG : Hid _ := row_get t 256 ht
  generalize bkA t = BK at *
  generalize bkR t = R at *
  have hzv := fun W => zero256 W
  rw [← HB0.out] at hzv
  obtain ⟨ZA, hZA⟩ : ∃ ZA, ZA = ((R 0).map B8).toArray := ⟨_, rfl⟩
  rw [← hZA] at hzv
  have HZS : Hid (ZA.size = 256) := by show _ = _; rw [hZA]; simp [HBL.out 0]
  have HZA : Hid _ := hZA
  obtain ⟨TA, hTA⟩ : ∃ TA, TA = (t.map B8).toArray := ⟨_, rfl⟩
  rw [← hTA]
  have hTS : TA.size = 256 := by rw [hTA]; simp [ht]
  have HTI : Hid ((Try.prog.info? 27).map (·.size) = some TA.size) := by show _ = _; rw [hTS]; kernel_rfl
  have HT1 : Hid (w.alloc (.cells TA 27 (0, 0)) = w.alloc (.cells TA 27 (0, 0))) := rfl
  have HTA : Hid _ := hTA
  have HTS : Hid _ := hTS
  have HST : Hid (B3 w (.cells TA 27 (0, 0)) (.cells ZA 27 (0, 0)) 27 (R 0) (((w.alloc (.cells TA 27 (0, 0))).alloc (.cells ZA 27 (0, 0))).alloc (.cells ZA 27 (0, 0)))) := B3.start _ _ _ _ _ hZA
  clear hZA hTA hTS ht
  go_enter Try.func32, Try.ntmps32
  go_wp2_with (first
    | (refine wpList_load_row rfl 27 _ rfl w.heap.size rfl 27 TA (0, 0) _ HST.out.1 Try.underlying27 rfl HTI.out ?_))
  go_loopw [7] (fun i wr => ∃ k : Nat, k ≤ 256 ∧ i = .int .i64 k ∧ B3 w (.cells TA 27 (0, 0)) (.cells ZA 27 (0, 0)) 27 (R k) wr) (fun i _ => 256 - (intOf i).toNat)
  case atStart => exact ⟨0, by omega, rfl, HST.out⟩
  case round =>
    clear HST
    obtain ⟨k, hk, rfl, hM⟩ := hrel
    by_cases hlt : k < 256
    · have hkI : (k : Int) < 256 := by omega
      have hx := (t.getD k 0).toNat_lt
      have HS : Hid (B3 w (.cells TA 27 (0, 0)) (.cells ZA 27 (0, 0)) 27 (R (k + 1)) (wr.setCell ⟨w.heap.size + 1 + 1, (t.getD k 0).toNat, none⟩ (.int .u8 (((UInt8.ofNat k).toNat : Nat) : Int)))) := by
        show B3 _ _ _ _ _ _
        rw [HBS.out k]; exact hM.set _ _
      have g0 : TA[k]? = some (.int .u8 ((t.getD k 0).toNat : Int)) := by rw [HTA.out]; exact HTG.out k hlt
      have g2 := cell_of_row _ _ (t.getD k 0).toNat _ _ _ hM.2.2.1
      rw [row_get (R k) 256 (HBL.out k) _ (by omega)] at g2
      have g3 := frozen_of_row _ _ (t.getD k 0).toNat _ _ hM.2.2.1
      have hkm : (((UInt8.ofNat k).toNat : Nat) : Int) = (k : Int) := by show ((k % 256 : Nat) : Int) = _; omega
      rw [hkm] at HS
      generalize t.getD k 0 = x at *
      have l3 : (x.toNat : Int) < 256 := by omega
      have hix := index_256 TA k x .i64 wr hlt HTS.out g0
      clear g0
      generalize (R k).getD x.toNat 0 = z at *
      clear hM hkm
      go_wp2
      go_roundw
      case rel => exact ⟨k + 1, by omega, by go_num, HS.out⟩
      case measure => simp [intOf]; omega
    · have hkI : ¬ (k : Int) < 256 := by omega
      have hk' : k = 256 := by omega
      obtain ⟨h1, h2, h3, h4⟩ := hM
      rw [hk', ← HBK.out] at h3
      obtain ⟨RS, hRS⟩ : ∃ RS, RS = (BK.map B8).toArray := ⟨_, rfl⟩
      have hr8 : RS.size = 256 := by rw [hRS, HBK.out]; simp [HBL.out 256]
      have HRI : Hid ((Try.prog.info? 27).map (·.size) = some RS.size) := by show _ = _; rw [hr8]; kernel_rfl
      have HR1 : Hid (RS.all (·.oneCell') = true) := by show _ = _; rw [hRS]; exact B8_onea _
      rw [← hRS] at h3
      have HT' : Hid _ := h3
      have HR : Hid _ := h2
      have HR8 : Hid (ZA.size = RS.size) := HZS.out.trans hr8.symm
      have HRS : Hid _ := hRS
      clear h1 h2 h3 hr8 hRS hk'
      go_wp2_with (first
        | (refine wpList_load_row rfl 27 _ rfl (w.heap.size + 1 + 1) rfl 27 _ (0, 0) _ HT'.out Try.underlying27 rfl HRI.out ?_)
        | (refine wpList_store_row rfl 27 _ _ rfl (w.heap.size + 1) _ rfl rfl 27 _ HR.out HRI.out HR8.out HR1.out ?_))
      refine bodyPost_ret (v := .agg RS) ?_ rfl ⟨by rw [HRS.out], below_setRow h4 (by omega) _⟩
      exact results_cell_row Try.results32 _ _ (w.heap.size + 1) 27 _ (0, 0) _ rfl (setRow_heap _ _ _ _ _ _ HR.out) Try.underlying27 rfl HRI.out

/-- A table turned round, at a byte that stands in it. -/
theorem bkR_at (t : List UInt8) (h : ∀ i j, i < 256 → j < 256 → t.getD i 0 = t.getD j 0 → i = j) : ∀ n, n ≤ 256 → ∀ i, i < n → (bkR t n).getD (t.getD i 0).toNat 0 = UInt8.ofNat i
  | 0, _, i, hi => by omega
  | n + 1, hn, i, hi => by
    have hl := bkR_len t n
    have hx := (t.getD i 0).toNat_lt
    unfold bkR
    by_cases e : i = n
    · subst e
      rw [List.getD, List.getElem?_set_self (by omega)]; rfl
    · have hne : (t.getD n 0).toNat ≠ (t.getD i 0).toNat := fun e' => e (h i n (by omega) (by omega) (UInt8.toNat_inj.1 e'.symm))
      rw [List.getD, List.getElem?_set_ne hne]
      exact bkR_at t h n (by omega) i (by omega)
theorem bkA_tab (a : UInt8) : (bkA tabA).getD a.toNat 0 = uvP a := by
  have hinj : ∀ i j, i < 256 → j < 256 → tabA.getD i 0 = tabA.getD j 0 → i = j := fun i j hi hj e => by
    rw [tabA_get i hi, tabA_get j hj, sbA_sbP, sbA_sbP] at e
    have e2 := congrArg uvP e
    rw [uvP_sbP, uvP_sbP] at e2
    have e3 := congrArg UInt8.toNat e2
    rw [show (UInt8.ofNat i).toNat = i % 256 from rfl, show (UInt8.ofNat j).toNat = j % 256 from rfl] at e3
    omega
  have hlt := (uvP a).toNat_lt
  have h1 := bkR_at tabA hinj 256 (by omega) (uvP a).toNat (by omega)
  rw [tabA_get _ (by omega), UInt8.ofNat_toNat, sbA_sbP, sbP_uvP] at h1
  exact h1

set_option maxHeartbeats 4000000 in
set_option maxRecDepth 100000 in
theorem punsub_any (a : UInt8) (w : World) : Calls Try.prog 15 #[.int .u8 (a.toNat : Int)] w fun e w' => e = .returned (.int .u8 ((uvP a).toNat : Int)) ∧ Below w.heap.size w w' := by
  have h1 := pallSubs_any w
  have h2 := fun W => pbackwards_any tabA W tabA_len
  have hg : ((bkA tabA).map B8).toArray[a.toNat]? = some (.int .u8 ((uvP a).toNat : Int)) := by
    have := row_get (bkA tabA) 256 (bkR_len tabA 256) a.toNat a.toNat_lt
    rw [bkA_tab] at this
    exact this
  have hs : ((bkA tabA).map B8).toArray.size = 256 := by simp [bkA, bkR_len]
  generalize ((bkA tabA).map B8).toArray = BA at *
  generalize (tabA.map B8).toArray = TA at *
  generalize uvP a = R at *
  have hl := a.toNat_lt
  have hix := fun W => index_256 BA a.toNat R .u8 W hl hs hg
  clear hl hg hs
  go_enter Try.func15, Try.ntmps15
  go_wp2_with fail
  refine h1.mono ?_
  rintro e w1 ⟨rfl, hb1⟩
  go_wp2_with fail
  refine (h2 w1).mono ?_
  rintro e w2 ⟨rfl, hb2⟩
  go_wp2
  go_ret
  exact ⟨rfl, hb1.trans (hb2.mono hb1.size)⟩

end Go.Proofs.Ytjohckgdbbhpdaa
