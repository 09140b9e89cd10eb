/- CpuReads: for any word and text, the tables of the program's as its text lays them, the statement's function answers true. -/
import Derived.Test.YtkpjfhphohanlaaDoorLU
import Derived.Test.YtkpjfhphohanlaaDoorLW
import Derived.ShutString
set_option linter.unusedVariables false
set_option linter.unusedSimpArgs false
namespace Go.Proofs.YtkpjfhphohanlaaDoor.JC
open Go.RowKit
open Go.Proofs.YtkpjfhphohanlaaDoor.EC (row_lt heap_at rangeAt_below rangeAt_row ret_bool ret_i64 beq_int)
theorem runtext_any (s : List UInt8) (w : World) (hG : GV w) : Calls Tryd.prog 19 #[sV s] w fun e w' => e = .returned (rdRes (unt s)) ∧ Below w.heap.size w w' := by
  by_cases h : s.length ≤ 60
  · exact runtext_short s h w hG
  · exact runtext_long s (by omega) w
theorem eqIns (W : World) (i : Ins) : (Op.equalIn 10000 24 (.agg (iL i).toArray) (.agg (iL i).toArray)).run Tryd.prog W = .ok true W := by
  rw [run_equalIn_struct W 9999 _ _ _ (by kernel_rfl) (by kernel_rfl)]
  unfold iL
  go_simp
/-- What the two answer of one instruction, or none. -/
structure BF (o : Option Ins) (L : List Value) (c : Int) (b : Bool) : Prop where
  n : L.length = 5
  one : L.toArray.all (·.oneCell') = true
  q : ∀ W, (Op.equalIn 10000 24 (.agg L.toArray) (.agg L.toArray)).run Tryd.prog W = .ok true W
  p : insRes o = .tuple #[.agg L.toArray, .int .i64 c]
  d : rdRes o = .tuple #[.agg L.toArray, .bool b]
theorem bf_of (o : Option Ins) : ∃ L, BF o L 0 true ∨ BF o L 4 false := by
  cases o with
  | none => exact ⟨iL iZ, .inr ⟨rfl, iL_one _, fun W => eqIns W _, rfl, rfl⟩⟩
  | some i => exact ⟨iL i, .inl ⟨rfl, iL_one _, fun W => eqIns W _, rfl, rfl⟩⟩
end Go.Proofs.YtkpjfhphohanlaaDoor.JC
namespace Go.Proofs.YtkpjfhphohanlaaDoor.cpuReads
open Go.ChangeShapes Go.WideShapes Go.ChangeAt Go.RowKit
open Go.Proofs.YtkpjfhphohanlaaDoor.JC
open Go.ChangeMaps (open_string shut_string)
open Go.Proofs.YtkpjfhphohanlaaDoor.EC (row_lt heap_at rangeAt_below rangeAt_row ret_bool ret_i64 beq_int)

set_option maxHeartbeats 1000000 in
set_option maxRecDepth 100000 in
theorem walk (n : Int) (s : ByteArray) (w : World) (hn : (Lit.int .u64 n).wf = true) (hG : GV w) : Calls Tryd.prog 4 #[.int .u64 n, .string s] w fun e w' => e = .returned (.bool true) ∧ Below w.heap.size w w' := by
  obtain ⟨h0, h1⟩ := JC.bounds_u64 hn
  have HK : Hid (∀ W, GV W → Calls Tryd.prog 13 #[] W fun e w' => e = .returned (.bool true) ∧ Below W.heap.size W w') := fun W hW => known_any W hW
  have HGV : Hid (∀ W, Below w.heap.size w W → GV W) := fun W hW => hG.below hW
  have HB0 : Hid (Below w.heap.size w w) := Below.refl _ _
  by_cases hlong : (9000 : Int) < s.size
  · clear hG h0 h1
    go_enter Tryd.func4, Tryd.ntmps4
    go_wp2_with fail
    refine Calls.mono (HK.out _ (HGV.out _ HB0.out)) ?_
    rintro e V ⟨rfl, hbV⟩
    go_wp2
    go_ret
    exact ⟨rfl, HB0.out.trans (hbV.mono HB0.out.size)⟩
  · obtain ⟨l, hl⟩ : ∃ l : List UInt8, s = ⟨l.toArray⟩ := ⟨s.data.toList, by cases s; simp⟩
    have hll : l.length ≤ 1000000 := by
      have : s.size = l.length := by rw [hl]; simp [ByteArray.size]
      omega
    have hD := fun W => dec_any n h0 h1 W
    have hE := fun W => rdec_any n h0 h1 W
    have hU := fun W (hW : GV W) => untext_any l hll W hW
    have hV := fun W (hW : GV W) => runtext_any l W hW
    unfold sV at hU hV
    rw [← hl] at hU hV
    obtain ⟨L1, h1f⟩ := bf_of (dec n)
    obtain ⟨L2, h2f⟩ := bf_of (unt l)
    obtain ⟨ZI, hZI⟩ : ∃ ZI : List Value, ZI = iL iZ := ⟨_, rfl⟩
    have hzi : ∀ W, (zeroValue 24).run Tryd.prog W = .ok (.agg ZI.toArray) W := fun W => by rw [hZI]; exact ins_zero W
    have HII : Hid (∀ L : List Value, L.length = 5 → (Tryd.prog.info? 24).map (·.size) = some L.toArray.size) := fun L h => by rw [List.size_toArray, h]; exact ins_info iZ
    have HII2 : Hid (∀ L : List Value, L.length = 5 → (Tryd.prog.info? 24).map (·.size) = some L.length) := fun L h => by rw [h]; exact ins_info iZ
    have HZN : Hid (ZI.length = 5) := by rw [hZI]; rfl
    clear hZI hl hG h0 h1 hn hll
    rcases h1f with H1 | H1
    · have hq1 := H1.q
      rw [H1.p] at hD
      rw [H1.d] at hE
      rcases h2f with H2 | H2
      · have hq2 := H2.q
        rw [H2.p] at hU
        rw [H2.d] at hV
        go_enter Tryd.func4, Tryd.ntmps4
        go_wp2_with fail
        refine Calls.mono (hD _) ?_
        rintro e X1 ⟨rfl, hb1⟩
        have HX1 : Hid (Below w.heap.size w X1) := HB0.out.trans (hb1.mono HB0.out.size)
        have HQ1 : Hid ((X1.alloc (.cells ZI.toArray 24 (0, 0))).heap[X1.heap.size]? = some (.cells ZI.toArray 24 (0, 0))) := heap_alloc_new _ _
        go_upto_region 4 with (refine wpList_strL rfl 24 _ _ rfl X1.heap.size L1.toArray rfl rfl 24 ZI.toArray HQ1.out (HII.out L1 H1.n) (by simp [HZN.out, H1.n]) H1.one ?_; intro Y1 eZ1; have eY1 : Hid _ := eZ1; clear eZ1)
        obtain ⟨pY1, rY1⟩ := put_row X1 ZI L1 24
        rw [← eY1.out] at pY1 rY1
        have HY1 : Hid (Below w.heap.size w Y1) := HX1.out.trans (pY1.mono HX1.out.size)
        have HR1 : Hid _ := rY1
        have HS1 : Hid _ := hb1.trans (pY1.mono hb1.size)
        clear eY1 pY1 rY1 HQ1 hb1
        go_wp2_with fail
        refine Calls.mono (hE _) ?_
        rintro e X2 ⟨rfl, hb2⟩
        have HX2 : Hid (Below w.heap.size w X2) := HY1.out.trans (hb2.mono HY1.out.size)
        have HQ2 : Hid ((X2.alloc (.cells ZI.toArray 24 (0, 0))).heap[X2.heap.size]? = some (.cells ZI.toArray 24 (0, 0))) := heap_alloc_new _ _
        go_upto_region 5 with (refine wpList_strL rfl 24 _ _ rfl X2.heap.size L1.toArray rfl rfl 24 ZI.toArray HQ2.out (HII.out L1 H1.n) (by simp [HZN.out, H1.n]) H1.one ?_; intro Y2 eZ2; have eY2 : Hid _ := eZ2; clear eZ2)
        obtain ⟨pY2, rY2⟩ := put_row X2 ZI L1 24
        rw [← eY2.out] at pY2 rY2
        have HY2 : Hid (Below w.heap.size w Y2) := HX2.out.trans (pY2.mono HX2.out.size)
        have HR2 : Hid _ := rY2
        have HS2 : Hid _ := hb2.trans (pY2.mono hb2.size)
        clear eY2 pY2 rY2 HQ2 hb2
        have HRA : Hid _ := (HS2.out.block _ (row_lt HR1.out)).trans HR1.out
        go_wp2_with (first
          | (refine wpList_load_mid rfl 24 _ rfl X1.heap.size 0 rfl L1 _ (rangeAt_row HRA.out) Tryd.underlying24 rfl (HII2.out L1 H1.n) ?_)
          | (refine wpList_load_mid rfl 24 _ rfl X2.heap.size 0 rfl L1 _ (rangeAt_row HR2.out) Tryd.underlying24 rfl (HII2.out L1 H1.n) ?_))
        refine Calls.mono (num_any _ _) ?_
        rintro e wq ⟨rfl, rfl⟩
        clear HRA
        go_wp2_with fail
        refine Calls.mono (hU _ (HGV.out _ HY2.out)) ?_
        rintro e X3 ⟨rfl, hb3⟩
        have HX3 : Hid (Below w.heap.size w X3) := HY2.out.trans (hb3.mono HY2.out.size)
        have HQ3 : Hid ((X3.alloc (.cells ZI.toArray 24 (0, 0))).heap[X3.heap.size]? = some (.cells ZI.toArray 24 (0, 0))) := heap_alloc_new _ _
        go_upto_region 8 with (refine wpList_strL rfl 24 _ _ rfl X3.heap.size L2.toArray rfl rfl 24 ZI.toArray HQ3.out (HII.out L2 H2.n) (by simp [HZN.out, H2.n]) H2.one ?_; intro Y3 eZ3; have eY3 : Hid _ := eZ3; clear eZ3)
        obtain ⟨pY3, rY3⟩ := put_row X3 ZI L2 24
        rw [← eY3.out] at pY3 rY3
        have HY3 : Hid (Below w.heap.size w Y3) := HX3.out.trans (pY3.mono HX3.out.size)
        have HR3 : Hid _ := rY3
        have HS3 : Hid _ := hb3.trans (pY3.mono hb3.size)
        clear eY3 pY3 rY3 HQ3 hb3
        go_wp2_with fail
        refine Calls.mono (hV _ (HGV.out _ HY3.out)) ?_
        rintro e X4 ⟨rfl, hb4⟩
        have HX4 : Hid (Below w.heap.size w X4) := HY3.out.trans (hb4.mono HY3.out.size)
        have HQ4 : Hid ((X4.alloc (.cells ZI.toArray 24 (0, 0))).heap[X4.heap.size]? = some (.cells ZI.toArray 24 (0, 0))) := heap_alloc_new _ _
        go_upto_region 9 with (refine wpList_strL rfl 24 _ _ rfl X4.heap.size L2.toArray rfl rfl 24 ZI.toArray HQ4.out (HII.out L2 H2.n) (by simp [HZN.out, H2.n]) H2.one ?_; intro Y4 eZ4; have eY4 : Hid _ := eZ4; clear eZ4)
        obtain ⟨pY4, rY4⟩ := put_row X4 ZI L2 24
        rw [← eY4.out] at pY4 rY4
        have HY4 : Hid (Below w.heap.size w Y4) := HX4.out.trans (pY4.mono HX4.out.size)
        have HR4 : Hid _ := rY4
        have HS4 : Hid _ := hb4.trans (pY4.mono hb4.size)
        clear eY4 pY4 rY4 HQ4 hb4
        have HRA : Hid _ := (HS4.out.block _ (row_lt HR3.out)).trans HR3.out
        go_wp2_with (first
          | (refine wpList_load_mid rfl 24 _ rfl X3.heap.size 0 rfl L2 _ (rangeAt_row HRA.out) Tryd.underlying24 rfl (HII2.out L2 H2.n) ?_)
          | (refine wpList_load_mid rfl 24 _ rfl X4.heap.size 0 rfl L2 _ (rangeAt_row HR4.out) Tryd.underlying24 rfl (HII2.out L2 H2.n) ?_))
        refine Calls.mono (num_any _ _) ?_
        rintro e wq ⟨rfl, rfl⟩
        clear HRA
        go_wp2_with fail
        refine Calls.mono (HK.out _ (HGV.out _ HY4.out)) ?_
        rintro e V ⟨rfl, hbV⟩
        go_wp2
        go_ret
        exact ⟨rfl, HY4.out.trans (hbV.mono HY4.out.size)⟩
      · have hq2 := H2.q
        rw [H2.p] at hU
        rw [H2.d] at hV
        go_enter Tryd.func4, Tryd.ntmps4
        go_wp2_with fail
        refine Calls.mono (hD _) ?_
        rintro e X1 ⟨rfl, hb1⟩
        have HX1 : Hid (Below w.heap.size w X1) := HB0.out.trans (hb1.mono HB0.out.size)
        have HQ1 : Hid ((X1.alloc (.cells ZI.toArray 24 (0, 0))).heap[X1.heap.size]? = some (.cells ZI.toArray 24 (0, 0))) := heap_alloc_new _ _
        go_upto_region 4 with (refine wpList_strL rfl 24 _ _ rfl X1.heap.size L1.toArray rfl rfl 24 ZI.toArray HQ1.out (HII.out L1 H1.n) (by simp [HZN.out, H1.n]) H1.one ?_; intro Y1 eZ1; have eY1 : Hid _ := eZ1; clear eZ1)
        obtain ⟨pY1, rY1⟩ := put_row X1 ZI L1 24
        rw [← eY1.out] at pY1 rY1
        have HY1 : Hid (Below w.heap.size w Y1) := HX1.out.trans (pY1.mono HX1.out.size)
        have HR1 : Hid _ := rY1
        have HS1 : Hid _ := hb1.trans (pY1.mono hb1.size)
        clear eY1 pY1 rY1 HQ1 hb1
        go_wp2_with fail
        refine Calls.mono (hE _) ?_
        rintro e X2 ⟨rfl, hb2⟩
        have HX2 : Hid (Below w.heap.size w X2) := HY1.out.trans (hb2.mono HY1.out.size)
        have HQ2 : Hid ((X2.alloc (.cells ZI.toArray 24 (0, 0))).heap[X2.heap.size]? = some (.cells ZI.toArray 24 (0, 0))) := heap_alloc_new _ _
        go_upto_region 5 with (refine wpList_strL rfl 24 _ _ rfl X2.heap.size L1.toArray rfl rfl 24 ZI.toArray HQ2.out (HII.out L1 H1.n) (by simp [HZN.out, H1.n]) H1.one ?_; intro Y2 eZ2; have eY2 : Hid _ := eZ2; clear eZ2)
        obtain ⟨pY2, rY2⟩ := put_row X2 ZI L1 24
        rw [← eY2.out] at pY2 rY2
        have HY2 : Hid (Below w.heap.size w Y2) := HX2.out.trans (pY2.mono HX2.out.size)
        have HR2 : Hid _ := rY2
        have HS2 : Hid _ := hb2.trans (pY2.mono hb2.size)
        clear eY2 pY2 rY2 HQ2 hb2
        have HRA : Hid _ := (HS2.out.block _ (row_lt HR1.out)).trans HR1.out
        go_wp2_with (first
          | (refine wpList_load_mid rfl 24 _ rfl X1.heap.size 0 rfl L1 _ (rangeAt_row HRA.out) Tryd.underlying24 rfl (HII2.out L1 H1.n) ?_)
          | (refine wpList_load_mid rfl 24 _ rfl X2.heap.size 0 rfl L1 _ (rangeAt_row HR2.out) Tryd.underlying24 rfl (HII2.out L1 H1.n) ?_))
        refine Calls.mono (num_any _ _) ?_
        rintro e wq ⟨rfl, rfl⟩
        clear HRA
        go_wp2_with fail
        refine Calls.mono (hU _ (HGV.out _ HY2.out)) ?_
        rintro e X3 ⟨rfl, hb3⟩
        have HX3 : Hid (Below w.heap.size w X3) := HY2.out.trans (hb3.mono HY2.out.size)
        have HQ3 : Hid ((X3.alloc (.cells ZI.toArray 24 (0, 0))).heap[X3.heap.size]? = some (.cells ZI.toArray 24 (0, 0))) := heap_alloc_new _ _
        go_upto_region 8 with (refine wpList_strL rfl 24 _ _ rfl X3.heap.size L2.toArray rfl rfl 24 ZI.toArray HQ3.out (HII.out L2 H2.n) (by simp [HZN.out, H2.n]) H2.one ?_; intro Y3 eZ3; have eY3 : Hid _ := eZ3; clear eZ3)
        obtain ⟨pY3, rY3⟩ := put_row X3 ZI L2 24
        rw [← eY3.out] at pY3 rY3
        have HY3 : Hid (Below w.heap.size w Y3) := HX3.out.trans (pY3.mono HX3.out.size)
        have HR3 : Hid _ := rY3
        have HS3 : Hid _ := hb3.trans (pY3.mono hb3.size)
        clear eY3 pY3 rY3 HQ3 hb3
        go_wp2_with fail
        refine Calls.mono (hV _ (HGV.out _ HY3.out)) ?_
        rintro e X4 ⟨rfl, hb4⟩
        have HX4 : Hid (Below w.heap.size w X4) := HY3.out.trans (hb4.mono HY3.out.size)
        have HQ4 : Hid ((X4.alloc (.cells ZI.toArray 24 (0, 0))).heap[X4.heap.size]? = some (.cells ZI.toArray 24 (0, 0))) := heap_alloc_new _ _
        go_upto_region 9 with (refine wpList_strL rfl 24 _ _ rfl X4.heap.size L2.toArray rfl rfl 24 ZI.toArray HQ4.out (HII.out L2 H2.n) (by simp [HZN.out, H2.n]) H2.one ?_; intro Y4 eZ4; have eY4 : Hid _ := eZ4; clear eZ4)
        obtain ⟨pY4, rY4⟩ := put_row X4 ZI L2 24
        rw [← eY4.out] at pY4 rY4
        have HY4 : Hid (Below w.heap.size w Y4) := HX4.out.trans (pY4.mono HX4.out.size)
        have HR4 : Hid _ := rY4
        have HS4 : Hid _ := hb4.trans (pY4.mono hb4.size)
        clear eY4 pY4 rY4 HQ4 hb4
        have HRA : Hid _ := (HS4.out.block _ (row_lt HR3.out)).trans HR3.out
        go_wp2_with (first
          | (refine wpList_load_mid rfl 24 _ rfl X3.heap.size 0 rfl L2 _ (rangeAt_row HRA.out) Tryd.underlying24 rfl (HII2.out L2 H2.n) ?_)
          | (refine wpList_load_mid rfl 24 _ rfl X4.heap.size 0 rfl L2 _ (rangeAt_row HR4.out) Tryd.underlying24 rfl (HII2.out L2 H2.n) ?_))
        refine Calls.mono (num_any _ _) ?_
        rintro e wq ⟨rfl, rfl⟩
        clear HRA
        go_wp2_with fail
        refine Calls.mono (num_any _ _) ?_
        rintro e wq ⟨rfl, rfl⟩
        go_wp2_with fail
        refine Calls.mono (HK.out _ (HGV.out _ HY4.out)) ?_
        rintro e V ⟨rfl, hbV⟩
        go_wp2
        go_ret
        exact ⟨rfl, HY4.out.trans (hbV.mono HY4.out.size)⟩
    · have hq1 := H1.q
      rw [H1.p] at hD
      rw [H1.d] at hE
      rcases h2f with H2 | H2
      · have hq2 := H2.q
        rw [H2.p] at hU
        rw [H2.d] at hV
        go_enter Tryd.func4, Tryd.ntmps4
        go_wp2_with fail
        refine Calls.mono (hD _) ?_
        rintro e X1 ⟨rfl, hb1⟩
        have HX1 : Hid (Below w.heap.size w X1) := HB0.out.trans (hb1.mono HB0.out.size)
        have HQ1 : Hid ((X1.alloc (.cells ZI.toArray 24 (0, 0))).heap[X1.heap.size]? = some (.cells ZI.toArray 24 (0, 0))) := heap_alloc_new _ _
        go_upto_region 4 with (refine wpList_strL rfl 24 _ _ rfl X1.heap.size L1.toArray rfl rfl 24 ZI.toArray HQ1.out (HII.out L1 H1.n) (by simp [HZN.out, H1.n]) H1.one ?_; intro Y1 eZ1; have eY1 : Hid _ := eZ1; clear eZ1)
        obtain ⟨pY1, rY1⟩ := put_row X1 ZI L1 24
        rw [← eY1.out] at pY1 rY1
        have HY1 : Hid (Below w.heap.size w Y1) := HX1.out.trans (pY1.mono HX1.out.size)
        have HR1 : Hid _ := rY1
        have HS1 : Hid _ := hb1.trans (pY1.mono hb1.size)
        clear eY1 pY1 rY1 HQ1 hb1
        go_wp2_with fail
        refine Calls.mono (hE _) ?_
        rintro e X2 ⟨rfl, hb2⟩
        have HX2 : Hid (Below w.heap.size w X2) := HY1.out.trans (hb2.mono HY1.out.size)
        have HQ2 : Hid ((X2.alloc (.cells ZI.toArray 24 (0, 0))).heap[X2.heap.size]? = some (.cells ZI.toArray 24 (0, 0))) := heap_alloc_new _ _
        go_upto_region 5 with (refine wpList_strL rfl 24 _ _ rfl X2.heap.size L1.toArray rfl rfl 24 ZI.toArray HQ2.out (HII.out L1 H1.n) (by simp [HZN.out, H1.n]) H1.one ?_; intro Y2 eZ2; have eY2 : Hid _ := eZ2; clear eZ2)
        obtain ⟨pY2, rY2⟩ := put_row X2 ZI L1 24
        rw [← eY2.out] at pY2 rY2
        have HY2 : Hid (Below w.heap.size w Y2) := HX2.out.trans (pY2.mono HX2.out.size)
        have HR2 : Hid _ := rY2
        have HS2 : Hid _ := hb2.trans (pY2.mono hb2.size)
        clear eY2 pY2 rY2 HQ2 hb2
        have HRA : Hid _ := (HS2.out.block _ (row_lt HR1.out)).trans HR1.out
        go_wp2_with (first
          | (refine wpList_load_mid rfl 24 _ rfl X1.heap.size 0 rfl L1 _ (rangeAt_row HRA.out) Tryd.underlying24 rfl (HII2.out L1 H1.n) ?_)
          | (refine wpList_load_mid rfl 24 _ rfl X2.heap.size 0 rfl L1 _ (rangeAt_row HR2.out) Tryd.underlying24 rfl (HII2.out L1 H1.n) ?_))
        refine Calls.mono (num_any _ _) ?_
        rintro e wq ⟨rfl, rfl⟩
        clear HRA
        go_wp2_with fail
        refine Calls.mono (num_any _ _) ?_
        rintro e wq ⟨rfl, rfl⟩
        go_wp2_with fail
        refine Calls.mono (hU _ (HGV.out _ HY2.out)) ?_
        rintro e X3 ⟨rfl, hb3⟩
        have HX3 : Hid (Below w.heap.size w X3) := HY2.out.trans (hb3.mono HY2.out.size)
        have HQ3 : Hid ((X3.alloc (.cells ZI.toArray 24 (0, 0))).heap[X3.heap.size]? = some (.cells ZI.toArray 24 (0, 0))) := heap_alloc_new _ _
        go_upto_region 8 with (refine wpList_strL rfl 24 _ _ rfl X3.heap.size L2.toArray rfl rfl 24 ZI.toArray HQ3.out (HII.out L2 H2.n) (by simp [HZN.out, H2.n]) H2.one ?_; intro Y3 eZ3; have eY3 : Hid _ := eZ3; clear eZ3)
        obtain ⟨pY3, rY3⟩ := put_row X3 ZI L2 24
        rw [← eY3.out] at pY3 rY3
        have HY3 : Hid (Below w.heap.size w Y3) := HX3.out.trans (pY3.mono HX3.out.size)
        have HR3 : Hid _ := rY3
        have HS3 : Hid _ := hb3.trans (pY3.mono hb3.size)
        clear eY3 pY3 rY3 HQ3 hb3
        go_wp2_with fail
        refine Calls.mono (hV _ (HGV.out _ HY3.out)) ?_
        rintro e X4 ⟨rfl, hb4⟩
        have HX4 : Hid (Below w.heap.size w X4) := HY3.out.trans (hb4.mono HY3.out.size)
        have HQ4 : Hid ((X4.alloc (.cells ZI.toArray 24 (0, 0))).heap[X4.heap.size]? = some (.cells ZI.toArray 24 (0, 0))) := heap_alloc_new _ _
        go_upto_region 9 with (refine wpList_strL rfl 24 _ _ rfl X4.heap.size L2.toArray rfl rfl 24 ZI.toArray HQ4.out (HII.out L2 H2.n) (by simp [HZN.out, H2.n]) H2.one ?_; intro Y4 eZ4; have eY4 : Hid _ := eZ4; clear eZ4)
        obtain ⟨pY4, rY4⟩ := put_row X4 ZI L2 24
        rw [← eY4.out] at pY4 rY4
        have HY4 : Hid (Below w.heap.size w Y4) := HX4.out.trans (pY4.mono HX4.out.size)
        have HR4 : Hid _ := rY4
        have HS4 : Hid _ := hb4.trans (pY4.mono hb4.size)
        clear eY4 pY4 rY4 HQ4 hb4
        have HRA : Hid _ := (HS4.out.block _ (row_lt HR3.out)).trans HR3.out
        go_wp2_with (first
          | (refine wpList_load_mid rfl 24 _ rfl X3.heap.size 0 rfl L2 _ (rangeAt_row HRA.out) Tryd.underlying24 rfl (HII2.out L2 H2.n) ?_)
          | (refine wpList_load_mid rfl 24 _ rfl X4.heap.size 0 rfl L2 _ (rangeAt_row HR4.out) Tryd.underlying24 rfl (HII2.out L2 H2.n) ?_))
        refine Calls.mono (num_any _ _) ?_
        rintro e wq ⟨rfl, rfl⟩
        clear HRA
        go_wp2_with fail
        refine Calls.mono (HK.out _ (HGV.out _ HY4.out)) ?_
        rintro e V ⟨rfl, hbV⟩
        go_wp2
        go_ret
        exact ⟨rfl, HY4.out.trans (hbV.mono HY4.out.size)⟩
      · have hq2 := H2.q
        rw [H2.p] at hU
        rw [H2.d] at hV
        go_enter Tryd.func4, Tryd.ntmps4
        go_wp2_with fail
        refine Calls.mono (hD _) ?_
        rintro e X1 ⟨rfl, hb1⟩
        have HX1 : Hid (Below w.heap.size w X1) := HB0.out.trans (hb1.mono HB0.out.size)
        have HQ1 : Hid ((X1.alloc (.cells ZI.toArray 24 (0, 0))).heap[X1.heap.size]? = some (.cells ZI.toArray 24 (0, 0))) := heap_alloc_new _ _
        go_upto_region 4 with (refine wpList_strL rfl 24 _ _ rfl X1.heap.size L1.toArray rfl rfl 24 ZI.toArray HQ1.out (HII.out L1 H1.n) (by simp [HZN.out, H1.n]) H1.one ?_; intro Y1 eZ1; have eY1 : Hid _ := eZ1; clear eZ1)
        obtain ⟨pY1, rY1⟩ := put_row X1 ZI L1 24
        rw [← eY1.out] at pY1 rY1
        have HY1 : Hid (Below w.heap.size w Y1) := HX1.out.trans (pY1.mono HX1.out.size)
        have HR1 : Hid _ := rY1
        have HS1 : Hid _ := hb1.trans (pY1.mono hb1.size)
        clear eY1 pY1 rY1 HQ1 hb1
        go_wp2_with fail
        refine Calls.mono (hE _) ?_
        rintro e X2 ⟨rfl, hb2⟩
        have HX2 : Hid (Below w.heap.size w X2) := HY1.out.trans (hb2.mono HY1.out.size)
        have HQ2 : Hid ((X2.alloc (.cells ZI.toArray 24 (0, 0))).heap[X2.heap.size]? = some (.cells ZI.toArray 24 (0, 0))) := heap_alloc_new _ _
        go_upto_region 5 with (refine wpList_strL rfl 24 _ _ rfl X2.heap.size L1.toArray rfl rfl 24 ZI.toArray HQ2.out (HII.out L1 H1.n) (by simp [HZN.out, H1.n]) H1.one ?_; intro Y2 eZ2; have eY2 : Hid _ := eZ2; clear eZ2)
        obtain ⟨pY2, rY2⟩ := put_row X2 ZI L1 24
        rw [← eY2.out] at pY2 rY2
        have HY2 : Hid (Below w.heap.size w Y2) := HX2.out.trans (pY2.mono HX2.out.size)
        have HR2 : Hid _ := rY2
        have HS2 : Hid _ := hb2.trans (pY2.mono hb2.size)
        clear eY2 pY2 rY2 HQ2 hb2
        have HRA : Hid _ := (HS2.out.block _ (row_lt HR1.out)).trans HR1.out
        go_wp2_with (first
          | (refine wpList_load_mid rfl 24 _ rfl X1.heap.size 0 rfl L1 _ (rangeAt_row HRA.out) Tryd.underlying24 rfl (HII2.out L1 H1.n) ?_)
          | (refine wpList_load_mid rfl 24 _ rfl X2.heap.size 0 rfl L1 _ (rangeAt_row HR2.out) Tryd.underlying24 rfl (HII2.out L1 H1.n) ?_))
        refine Calls.mono (num_any _ _) ?_
        rintro e wq ⟨rfl, rfl⟩
        clear HRA
        go_wp2_with fail
        refine Calls.mono (num_any _ _) ?_
        rintro e wq ⟨rfl, rfl⟩
        go_wp2_with fail
        refine Calls.mono (hU _ (HGV.out _ HY2.out)) ?_
        rintro e X3 ⟨rfl, hb3⟩
        have HX3 : Hid (Below w.heap.size w X3) := HY2.out.trans (hb3.mono HY2.out.size)
        have HQ3 : Hid ((X3.alloc (.cells ZI.toArray 24 (0, 0))).heap[X3.heap.size]? = some (.cells ZI.toArray 24 (0, 0))) := heap_alloc_new _ _
        go_upto_region 8 with (refine wpList_strL rfl 24 _ _ rfl X3.heap.size L2.toArray rfl rfl 24 ZI.toArray HQ3.out (HII.out L2 H2.n) (by simp [HZN.out, H2.n]) H2.one ?_; intro Y3 eZ3; have eY3 : Hid _ := eZ3; clear eZ3)
        obtain ⟨pY3, rY3⟩ := put_row X3 ZI L2 24
        rw [← eY3.out] at pY3 rY3
        have HY3 : Hid (Below w.heap.size w Y3) := HX3.out.trans (pY3.mono HX3.out.size)
        have HR3 : Hid _ := rY3
        have HS3 : Hid _ := hb3.trans (pY3.mono hb3.size)
        clear eY3 pY3 rY3 HQ3 hb3
        go_wp2_with fail
        refine Calls.mono (hV _ (HGV.out _ HY3.out)) ?_
        rintro e X4 ⟨rfl, hb4⟩
        have HX4 : Hid (Below w.heap.size w X4) := HY3.out.trans (hb4.mono HY3.out.size)
        have HQ4 : Hid ((X4.alloc (.cells ZI.toArray 24 (0, 0))).heap[X4.heap.size]? = some (.cells ZI.toArray 24 (0, 0))) := heap_alloc_new _ _
        go_upto_region 9 with (refine wpList_strL rfl 24 _ _ rfl X4.heap.size L2.toArray rfl rfl 24 ZI.toArray HQ4.out (HII.out L2 H2.n) (by simp [HZN.out, H2.n]) H2.one ?_; intro Y4 eZ4; have eY4 : Hid _ := eZ4; clear eZ4)
        obtain ⟨pY4, rY4⟩ := put_row X4 ZI L2 24
        rw [← eY4.out] at pY4 rY4
        have HY4 : Hid (Below w.heap.size w Y4) := HX4.out.trans (pY4.mono HX4.out.size)
        have HR4 : Hid _ := rY4
        have HS4 : Hid _ := hb4.trans (pY4.mono hb4.size)
        clear eY4 pY4 rY4 HQ4 hb4
        have HRA : Hid _ := (HS4.out.block _ (row_lt HR3.out)).trans HR3.out
        go_wp2_with (first
          | (refine wpList_load_mid rfl 24 _ rfl X3.heap.size 0 rfl L2 _ (rangeAt_row HRA.out) Tryd.underlying24 rfl (HII2.out L2 H2.n) ?_)
          | (refine wpList_load_mid rfl 24 _ rfl X4.heap.size 0 rfl L2 _ (rangeAt_row HR4.out) Tryd.underlying24 rfl (HII2.out L2 H2.n) ?_))
        refine Calls.mono (num_any _ _) ?_
        rintro e wq ⟨rfl, rfl⟩
        clear HRA
        go_wp2_with fail
        refine Calls.mono (num_any _ _) ?_
        rintro e wq ⟨rfl, rfl⟩
        go_wp2_with fail
        refine Calls.mono (HK.out _ (HGV.out _ HY4.out)) ?_
        rintro e V ⟨rfl, hbV⟩
        go_wp2
        go_ret
        exact ⟨rfl, HY4.out.trans (hbV.mono HY4.out.size)⟩
set_option maxRecDepth 100000 in
theorem lifted (os : Os) (started : os.Started) (H : Type) (enc : TypeId × Value → H) :
    ReturnsInHanded {} Tryd.checked os 4 .any (fun w args => (Rows.cpuReadsSpec.pre enc Tryd.prog Tryd.f4 [] false w args ∧ laidMetH Tryd.prog Rows.cpuReadsRow.laid w) ∧ sizedMet enc Tryd.prog Tryd.f4 (OpenSpec.ofChange Rows.cpuReadsSpec) false w args) (Rows.cpuReadsSpec.post enc Tryd.prog Tryd.f4 false true false false) := by
  refine returnsInHanded_of_change_and (C := Tryd.checked) (X := fun w _ => laidMetH Tryd.prog Rows.cpuReadsRow.laid w) (fun _ _ _ hh h => h.of_heap hh) own started (by kernel_rfl) Tryd.func4
    (ChangeSpec.witness_shaped (enc := enc) (C := Tryd.checked) (os := os) (X := fun w _ => laidMetH Tryd.prog Rows.cpuReadsRow.laid w) false (World.doorLaid Tryd.prog 400 os) #[.int .u64 0, .string ByteArray.empty] 8 rfl (World.shaped_of_RefB (by kernel_rfl) (by kernel_rfl)) (by kernel_rfl) (by kernel_rfl) (by kernel_rfl) (door_met os _)) ?_
  intro W base args ds gs before hval0 hW hcnd _ hL _
  have hval : ∀ (j : Nat) t v, Tryd.f4.params[j]? = some t → args[j]? = some v → Value.okWide Tryd.prog W .any base t v := hval0
  have hW' := hW
  obtain ⟨p, q, hA0, hV, rfl, hfz, hnd⟩ := hW
  have hA : DataW.TrodAll enc Tryd.prog W 0 (fun _ => true) true Tryd.f4.params.toList args.toList ds p := hA0
  rw [Tryd.params4] at hA hval
  obtain ⟨v0, vs0, d0, ds0, p0, q0, hargs, rfl, rfl, h0, r0⟩ := trodAll_cons hA
  obtain ⟨v1, vs1, d1, ds1, p1, q1, rfl, rfl, rfl, h1, r1⟩ := trodAll_cons r0
  obtain ⟨rfl, rfl, rfl⟩ := trodAll_nil r1
  obtain rfl : args = #[v0, v1] := by cases args; simp_all
  obtain ⟨rfl, rfl⟩ := trodVars_none hV
  obtain ⟨n0, rfl, rfl, rfl, w0⟩ := open_int Tryd.underlying25 (hval 0 25 v0 rfl rfl) h0
  obtain ⟨s1, rfl, rfl, rfl, sm1⟩ := open_string Tryd.underlying9 (hval 1 9 v1 rfl rfl) h1
  clear hA0 hval0
  refine (walk n0 s1 W w0 (of_laid hL)).mono fun e W' ⟨he, bel⟩ => ?_
  subst he
  exact ⟨_, rfl, _, _, _, [], _, [], hW', trodAll_mk1 (shut_bool Tryd.underlying4 _), (trodAll_cons_mk (shut_int Tryd.underlying25 w0) (trodAll_cons_mk (shut_string Tryd.underlying9 sm1) trodAll_mk0)), rfl, bel.frame _, fun h => by cases h⟩

theorem over : Rows.cpuReadsRow.holds Tryd.pinned (OpenSpec.ofChange Rows.cpuReadsSpec) :=
  OpenClaim.holds_of_wide 4 Tryd.f4 rfl rfl rfl rfl rfl rfl rfl ⟨rfl, rfl, rfl, rfl, rfl⟩ rfl rfl rfl rfl rfl (by kernel_rfl) Tryd.func4 (by kernel_rfl)
    (of_decide_eq_true (by kernel_rfl)) (by unfold Func.isWrapper; first | (rw [if_pos (by decide +kernel)]; kernel_rfl) | (rw [if_neg (by decide +kernel)]; exact ⟨rfl, rfl⟩))
    (fun os started H enc _ => lifted os started H enc)

theorem card : Rows.CpuReadsCardSaid :=
  Claim7.holds_tied_plain_at .later [] Rows.cpuReadsCard.laidKinds true Rows.cpuReadsCard.stood.harness Rows.cpuReadsCard.stood.looks
    over (fun _ h => by cases h) (by kernel_rfl) (fun _ h => by cases h) cpuReads_row_tie rfl ⟨rfl, rfl⟩ (by kernel_rfl) rfl
    (fun f fn hf hfn => by
      obtain rfl : f = 4 := Option.some.inj ((show Tryd.prog.funcNamed Rows.cpuReadsRow.func = some 4 by kernel_rfl).symm.trans hf) |>.symm
      obtain rfl : fn = Tryd.f4 := (Option.some.inj (Tryd.func4.symm.trans hfn)).symm
      exact ⟨by kernel_rfl, fun j t ht => by
        rw [Tryd.params4] at ht
        have hm : t ∈ [25, 9] := by simpa using Array.mem_of_getElem? ht
        have hall : ([25, 9].all fun u => !Tryd.prog.wantsStandIn u) = true := by kernel_rfl
        exact (show Tryd.prog.wantsStandIn t = false by simpa using List.all_eq_true.1 hall t hm)⟩)
    (by kernel_rfl)
end Go.Proofs.YtkpjfhphohanlaaDoor.cpuReads
namespace Go.Proofs.YtkpjfhphohanlaaDoor
theorem cpuReads_holds : Rows.CpuReadsCardSaid := cpuReads.card
#print axioms cpuReads_holds
end Go.Proofs.YtkpjfhphohanlaaDoor
