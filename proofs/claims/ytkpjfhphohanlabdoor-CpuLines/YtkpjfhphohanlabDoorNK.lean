/- CpuLines: for any instructions, state and number, the tables of the program's as its text lays them, the statement's function answers true. -/
import Derived.Test.YtkpjfhphohanlabDoorNH
import Derived.Test.YtkpjfhphohanlabDoorNG
set_option linter.unusedVariables false
set_option linter.unusedSimpArgs false
namespace Go.Proofs.YtkpjfhphohanlabDoor.cpuLines
open Go.ChangeShapes Go.WideShapes Go.ChangeAt Go.RowKit
open Go.Proofs.YtkpjfhphohanlabDoor.JC
open Go.Proofs.YtkpjfhphohanlabDoor.EC (row_lt heap_at rangeAt_below rangeAt_row ret_bool ret_i64 beq_int)

set_option maxHeartbeats 4000000 in
set_option maxRecDepth 100000 in
theorem walk (v : Value) (ls : List Ins) (s : St) (x : Int) (w : World) (hll : ls.length ≤ 9223372036854775807) (hv : HJ w v ls) (hs : swf s) (hx : (Lit.int .u64 x).wf = true) (hG : GV w) : Calls Tryd.prog 3 #[v, .agg (sL s).toArray, .int .u64 x] w fun e w' => e = .returned (.bool true) ∧ Below w.heap.size w w' := by
  have HK : Hid (∀ W, GV W → Calls Tryd.prog 4 #[] W fun e w' => e = .returned (.bool true) ∧ Below W.heap.size W w') := fun W hW => known_any W hW
  have hu : u64 x := JC.bounds_u64 hx
  have HV : Hid (HJ w v ls) := hv
  obtain ⟨pv, cv, rfl, hrv⟩ := hv
  have HCL : Hid ((sL s).length = 9) := sL_len hs
  have HGV : Hid (∀ X, Below w.heap.size w X → GV X) := fun X hX => hG.below hX
  have hb0 : Below w.heap.size w (w.alloc (.cells (sL s).toArray 26 (0, 0))) := (Below.refl _ _).alloc (Nat.le_refl _) _
  by_cases hL : 60 < ls.length
  · have hLI : (60 : Int) < (ls.length : Int) := by omega
    have HB0 : Hid _ := hb0
    clear hrv hG hx hll hb0
    generalize sL s = CL at *
    go_enter Tryd.func3, Tryd.ntmps3
    go_wp2_with fail
    refine Calls.mono (HK.out _ (HGV.out _ HB0.out)) ?_
    rintro e V ⟨rfl, hbV⟩
    go_wp2
    go_ret
    exact ⟨rfl, HB0.out.trans (hbV.mono HB0.out.size)⟩
  have hLI : ¬ (60 : Int) < (ls.length : Int) := by omega
  have hL6 : ls.length ≤ 60 := by omega
  have HR : Hid (∀ k i, ls[k]? = some i → iwf i ∧ ∃ b o, pv = some ⟨b, o, none⟩ ∧ w.rangeAt b (o + k * 5) (iL i)) := hrv
  have HX : Hid (∀ k, k < ls.length → ∃ i, ls[k]? = some i ∧ ls.take (k + 1) = ls.take k ++ [i]) := fun k hk => ⟨ls[k], List.getElem?_eq_getElem hk, by rw [List.take_add_one, List.getElem?_eq_getElem hk]; rfl⟩
  have HB0 : Hid _ := hb0
  have HWS : Hid (∀ X, Below (w.alloc (.cells (sL s).toArray 26 (0, 0))).heap.size (w.alloc (.cells (sL s).toArray 26 (0, 0))) X → Below w.heap.size w X) := fun X hX => hb0.trans (hX.mono hb0.size)
  have HROW : Hid ((w.alloc (.cells (sL s).toArray 26 (0, 0))).heap[w.heap.size]? = some (.cells (sL s).toArray 26 (0, 0))) := heap_alloc_new _ _
  obtain ⟨s1, hs1⟩ : ∃ s1 : St, s1 = ⟨s.rs.set 7 x, s.pc⟩ := ⟨_, rfl⟩
  have HS1 : Hid (swf s1) := by show swf s1; rw [hs1]; exact hs.set 7 x hu
  have H17 : Hid (s1.rs.getD 7 0 = x) := by show _ = _; rw [hs1]; simp [List.getD, List.getElem?_set, hs.len]
  have HGI : Hid (∀ W, Calls Tryd.prog 11 #[.agg (sL s).toArray, .int .i64 7, .int .u64 x] W fun e w' => e = .returned (.tuple #[.agg (sL s1).toArray, .int .i64 0]) ∧ Below W.heap.size W w') := fun W => by
    have q := give_any s hs 7 x W
    rw [if_pos (by decide), if_pos (by decide)] at q
    rw [hs1]
    exact q
  have HCI : Hid (∀ L : List Value, L.length = 9 → (Tryd.prog.info? 26).map (·.size) = some L.toArray.size) := fun L h => by rw [List.size_toArray, h]; kernel_rfl
  have HCI2 : Hid (∀ L : List Value, L.length = 9 → (Tryd.prog.info? 26).map (·.size) = some L.length) := fun L h => by rw [h]; kernel_rfl
  clear hs1
  have HII2 : Hid (∀ L : List Value, L.length = 5 → (Tryd.prog.info? 34).map (·.size) = some L.length) := fun L h => by rw [h]; exact ins_info iZ
  clear hrv hG hx hll hb0 hL
  generalize hn : ls.length = n at *
  go_enter Tryd.func3, Tryd.ntmps3
  go_upto_region 1 with fail
  generalize w.alloc (.cells (sL s).toArray 26 (0, 0)) = W0 at *
  have HNL : Hid (ls.length = n) := hn
  clear hn
  have HBR : Hid (Below W0.heap.size W0 W0) := Below.refl _ _
  have HF0 : Hid (FU W0.heap.size W0 (.slice none 0 0) (wds (ls.take 0))) := World.ownsRow_nil _ _ _ _
  go_wp2
  go_loopw [7, 8, 9] (fun a b i wr => ∃ k : Nat, k ≤ n ∧ a = sV (lt_ (tls (ls.take k))) ∧ FU W0.heap.size wr b (wds (ls.take k)) ∧ i = .int .i64 k ∧ Below W0.heap.size W0 wr) (fun _ _ i _ => n - (intOf i).toNat)
  case atStart => exact ⟨0, by omega, rfl, HF0.out, rfl, HBR.out⟩
  case round =>
    clear HF0 HBR
    obtain ⟨k, hk, rfl, hF, rfl, hb⟩ := hrel
    by_cases hlt : k < n
    · have hkI : (k : Int) < (n : Int) := by omega
      obtain ⟨i, hi, ht⟩ := HX.out k hlt
      obtain ⟨hiw, b, o, rfl, hr⟩ := HR.out k i hi
      have hrw : wr.rangeAt b (o + k * 5) (iL i) := fun j u hj => (((HWS.out _ hb).cell (block_lt (hr j u hj))).trans (hr j u hj))
      have HRW : Hid _ := hrw
      have HLN : Hid ((iL i).length = 5) := rfl
      have HIW : Hid (iwf i) := hiw
      have HBW : Hid (Below W0.heap.size W0 wr) := hb
      have HFW : Hid (FU W0.heap.size wr _ (wds (ls.take k))) := hF
      have HT : Hid (ls.take (k + 1) = ls.take k ++ [i]) := ht
      clear hr hrw hb hF ht hi hiw
      cases hm : may i
      · have hTx := text_bad i HIW.out hm wr
        have hEn := fun W => enc_bad i HIW.out hm W
        have hws := wds_snoc (ls.take k) i
        have htl := tls_snoc (ls.take k) i
        rw [hm] at hws htl
        simp only [Bool.false_eq_true, if_false] at hws htl
        rw [show iV i = .agg (iL i).toArray from rfl] at hTx hEn
        have HWD : Hid _ := hws
        have HTL : Hid _ := htl
        clear hm hws htl
        go_wp2_with (refine wpList_load_mid rfl 34 (.tmp 34) rfl b (o + k * 5) rfl (iL i) _ HRW.out Tryd.underlying34 rfl (HII2.out _ HLN.out) ?_)
        refine Calls.mono hTx ?_
        rintro e X1 ⟨rfl, hX⟩
        have HBX : Hid (Below wr.heap.size wr X1) := hX
        have HRX : Hid (X1.rangeAt b (o + k * 5) (iL i)) := fun j u hj => (hX.cell (block_lt (HRW.out j u hj))).trans (HRW.out j u hj)
        clear hX hTx
        go_wp2_with (refine wpList_load_mid rfl 34 (.tmp 42) rfl b (o + k * 5) rfl (iL i) _ HRX.out Tryd.underlying34 rfl (HII2.out _ HLN.out) ?_)
        refine Calls.mono (hEn X1) ?_
        rintro e X2 ⟨rfl, hX⟩
        have HBY : Hid (Below X1.heap.size X1 X2) := hX
        have HBZ : Hid (Below W0.heap.size W0 X2) := HBW.out.trans ((HBX.out.trans (hX.mono HBX.out.size)).mono HBW.out.size)
        clear hX hEn HRX HRW
        go_wp2_with fail
        refine Calls.mono (num_any _ _) ?_
        rintro e wq ⟨rfl, rfl⟩
        go_wp2_with fail
        refine Calls.mono (num_any _ _) ?_
        rintro e wq ⟨rfl, rfl⟩
        go_wp2_with fail
        refine Calls.mono (num_any _ _) ?_
        rintro e wq ⟨rfl, rfl⟩
        have hFE : FU W0.heap.size X2 u8 (wds (ls.take (k + 1))) := by rw [HT.out, HWD.out]; exact FU.below (FU.below HFW.out HBX.out) HBY.out
        go_wp2
        go_roundw
        case rel => exact ⟨k + 1, by omega, by rw [HT.out, HTL.out], hFE, by go_num, HBZ.out⟩
        case measure => simp [intOf]; omega
      · have hTx := text_ok i HIW.out hm wr (HGV.out _ (HWS.out _ HBW.out))
        have hEn := fun W => enc_ok i HIW.out hm W
        have hws := wds_snoc (ls.take k) i
        have htl := tls_snoc (ls.take k) i
        rw [hm] at hws htl
        simp only [if_true] at hws htl
        rw [show iV i = .agg (iL i).toArray from rfl] at hTx hEn
        have HWD : Hid _ := hws
        have HTL : Hid _ := htl
        have HWL : Hid ((wds (ls.take k)).length ≤ 1000000) := by
          have h1 := wds_len (ls.take k)
          have h2 : (ls.take k).length ≤ k := List.length_take_le _ _
          show _ ≤ _
          omega
        obtain ⟨S1, hS1⟩ : ∃ S : ByteArray, S = ⟨(txt i).toArray⟩ := ⟨_, rfl⟩
        obtain ⟨S0, hS0⟩ : ∃ S : ByteArray, S = ⟨(lt_ (tls (ls.take k))).toArray⟩ := ⟨_, rfl⟩
        have HSE : Hid (sV (lt_ (tls (ls.take (k + 1)))) = .string (S0 ++ S1 ++ ⟨#[10]⟩)) := by
          show _ = _
          rw [HT.out, HTL.out, hS0, hS1]
          unfold sV
          congr 1
          apply ByteArray.ext
          simp [ByteArray.data_append]
        have hz1 : S1.size ≤ 60 := by rw [hS1]; simpa [ByteArray.size] using txt_len hm
        have hz0 : S0.size ≤ 4000 := by
          have h1 := tls_len (ls.take k)
          have h2 : (ls.take k).length ≤ k := List.length_take_le _ _
          rw [hS0]
          simp only [ByteArray.size, List.size_toArray]
          omega
        have hs1 : ¬ 9223372036854775807 < S0.size + S1.size := by omega
        have hs2 : ¬ 9223372036854775807 < S0.size + S1.size + 1 := by omega
        clear hz0 hz1
        unfold sV at hTx ⊢
        rw [← hS1] at hTx
        rw [← hS0]
        clear hm hws htl hS1 hS0
        generalize wrd i = WD at *
        go_wp2_with (refine wpList_load_mid rfl 34 (.tmp 34) rfl b (o + k * 5) rfl (iL i) _ HRW.out Tryd.underlying34 rfl (HII2.out _ HLN.out) ?_)
        refine Calls.mono hTx ?_
        rintro e X1 ⟨rfl, hX⟩
        have HBX : Hid (Below wr.heap.size wr X1) := hX
        have HRX : Hid (X1.rangeAt b (o + k * 5) (iL i)) := fun j u hj => (hX.cell (block_lt (HRW.out j u hj))).trans (HRW.out j u hj)
        clear hX hTx
        go_wp2_with (refine wpList_load_mid rfl 34 (.tmp 42) rfl b (o + k * 5) rfl (iL i) _ HRX.out Tryd.underlying34 rfl (HII2.out _ HLN.out) ?_)
        refine Calls.mono (hEn X1) ?_
        rintro e X2 ⟨rfl, hX⟩
        have HBY : Hid (Below X1.heap.size X1 X2) := hX
        have HBZ : Hid (Below W0.heap.size W0 X2) := HBW.out.trans ((HBX.out.trans (hX.mono HBX.out.size)).mono HBW.out.size)
        clear hX hEn HRX HRW
        go_wp2_with fail
        refine Calls.mono (num_any _ _) ?_
        rintro e wq ⟨rfl, rfl⟩
        go_wp2_with fail
        refine Calls.mono (num_any _ _) ?_
        rintro e wq ⟨rfl, rfl⟩
        go_wp2_with fail
        refine Calls.mono (num_any _ _) ?_
        rintro e wq ⟨rfl, rfl⟩
        have HF3 : Hid (FU W0.heap.size X2 u8 (wds (ls.take k))) := FU.below (FU.below HFW.out HBX.out) HBY.out
        have hsz := HBZ.out.size
        go_wp2_with (at_builtin; refine wpList_appU rfl (.tmp 59) (.tmp 61) rfl W0.heap.size _ (wds (ls.take k)) WD rfl rfl HF3.out HWL.out hsz ?_; intro g3 cap3 w3 hf3 hgr3)
        exact ⟨⟨k + 1, by omega, HSE.out.symm, by rw [HT.out, HWD.out]; exact hf3, by go_num, (HBZ.out.alloc hsz _).grown hgr3 (by simp; omega) (fun j hj => (World.ownsRow.lt HF3.out j hj).1)⟩, by simp [intOf]; omega⟩
    · have hkI : ¬ (k : Int) < (n : Int) := by omega
      have htk : ls.take k = ls := List.take_of_length_le (by rw [HNL.out]; omega)
      rw [htk] at hF ⊢
      have HFU : Hid (FU W0.heap.size wr _ (wds ls)) := hF
      obtain ⟨pw, cw, hw⟩ := FU.form hF
      rw [hw] at HFU
      subst hw
      have HBW : Hid (Below W0.heap.size W0 wr) := hb
      have HGW : Hid (∀ X, Below W0.heap.size W0 X → GV X) := fun X hX => HGV.out _ (HWS.out _ hX)
      have hwl := wds_len ls
      rw [HNL.out] at hwl
      have htl := tls_len ls
      rw [HNL.out] at htl
      obtain ⟨b1, b2, b3⟩ := wds_back ls
      have hll2 : (tls ls).length = (wds ls).length := by unfold tls wds; rw [List.length_map, List.length_map]
      have hPG : ∀ W, GV W → Calls Tryd.prog 8 #[sV (lt_ (tls ls))] W fun e w' => (∃ u, e = .returned (.tuple #[u, .int .i64 0, .int .i64 0]) ∧ FU W.heap.size w' u (wds ls)) ∧ Below W.heap.size W w' := fun W hW => (prog_any (lt_ (tls ls)) (by omega) W hW).mono fun e w' ⟨h1, h2⟩ => ⟨by
        have q := h1.ok (by rw [b1, hll2]; omega) (by rw [b1]; exact b3)
        rw [b1, b2] at q
        exact q, h2⟩
      have hLI2 : ∀ v W, GV W → HU W v (wds ls) → Calls Tryd.prog 9 #[v] W fun e w' => e = .returned (.tuple #[sV (lt_ (tls ls)), .int .i64 0]) ∧ Below W.heap.size W w' := fun v W h1 h2 => by rw [← wds_ls]; exact list_any v (wds ls) (by omega) W h1 h2
      have hSM : ∀ v1 v2 W, HU W v1 (wds ls) → HU W v2 (wds ls) → Calls Tryd.prog 10 #[v1, v2] W fun e w' => e = .returned (.bool true) ∧ Below W.heap.size W w' := fun v1 v2 W h1 h2 => same_eq v1 v2 (wds ls) W (by omega) h1 h2
      have HUS : Hid (∀ x ∈ wds ls, u64 x) := wds_u64 ls
      clear hF hb htk hwl htl b1 b2 b3 hll2
      unfold sV at hPG hLI2 ⊢
      obtain ⟨S0, hS0⟩ : ∃ S : ByteArray, S = ⟨(lt_ (tls ls)).toArray⟩ := ⟨_, rfl⟩
      rw [← hS0] at hPG hLI2 ⊢
      clear hS0
      generalize wds ls = WS at *
      go_wp2_with fail
      refine Calls.mono (hPG _ (HGW.out _ HBW.out)) ?_
      rintro e X1 ⟨⟨u, rfl, hf⟩, hX⟩
      have HB1 : Hid (Below W0.heap.size W0 X1) := HBW.out.trans (hX.mono HBW.out.size)
      have HF1 : Hid (FU W0.heap.size X1 _ WS) := FU.below HFU.out hX
      have HU1 : Hid (FU wr.heap.size X1 u WS) := hf
      clear hX hf hPG HFU
      go_wp2_with fail
      refine Calls.mono (hLI2 _ X1 (HGW.out _ HB1.out) (FU.hu HF1.out HUS.out)) ?_
      rintro e X2 ⟨rfl, hX⟩
      have HB2 : Hid (Below W0.heap.size W0 X2) := HB1.out.trans (hX.mono HB1.out.size)
      have HF2 : Hid (FU W0.heap.size X2 _ WS) := FU.below HF1.out hX
      have HU2 : Hid (FU wr.heap.size X2 u WS) := FU.below HU1.out hX
      clear hX hLI2 HF1 HU1
      go_wp2_with fail
      refine Calls.mono (hSM _ _ X2 (FU.hu HU2.out HUS.out) (FU.hu HF2.out HUS.out)) ?_
      rintro e X3 ⟨rfl, hX⟩
      have HB3 : Hid (Below W0.heap.size W0 X3) := HB2.out.trans (hX.mono HB2.out.size)
      clear hX hSM HF2 HU2
      go_wp2_with fail
      refine Calls.mono (num_any _ _) ?_
      rintro e wq ⟨rfl, rfl⟩
      go_wp2_with fail
      refine Calls.mono (num_any _ _) ?_
      rintro e wq ⟨rfl, rfl⟩
      go_upto_region 19 with fail
      have HR3 : Hid (X3.heap[w.heap.size]? = some (.cells (sL s).toArray 26 (0, 0))) := (HB3.out.block _ (row_lt HROW.out)).trans HROW.out
      have HW3 : Hid (Below w.heap.size w X3) := HWS.out _ HB3.out
      clear HB1 HB2 HB3 HBW HGW
      go_wp2_with (refine wpList_load_mid rfl 26 (.tmp 4) rfl w.heap.size 0 rfl (sL s) _ (rangeAt_row HR3.out) Tryd.underlying26 rfl (HCI2.out _ HCL.out) ?_)
      refine Calls.mono (HGI.out X3) ?_
      rintro e X4 ⟨rfl, hX⟩
      have HR4 : Hid (X4.heap[w.heap.size]? = some (.cells (sL s).toArray 26 (0, 0))) := (hX.block _ (row_lt HR3.out)).trans HR3.out
      have HW4 : Hid (Below w.heap.size w X4) := HW3.out.trans (hX.mono HW3.out.size)
      clear hX HR3 HW3
      go_upto_region 20 with (refine wpList_strL rfl 26 (.tmp 4) (.tmp 99) rfl w.heap.size (sL s1).toArray rfl rfl 26 (sL s).toArray HR4.out (HCI.out _ (sL_len HS1.out)) (by simp [HCL.out, sL_len HS1.out]) (sL_one s1) ?_; intro X5 eZ; have HE5 : Hid _ := eZ; clear eZ)
      have HR5 : Hid (X5.heap[w.heap.size]? = some (.cells (sL s1).toArray 26 (0, 0))) := by
        show _ = _
        rw [HE5.out]; exact setRow_heap _ _ _ _ _ _ HR4.out
      have HW5 : Hid (Below w.heap.size w X5) := by
        show Below _ _ _
        rw [HE5.out]; exact below_setRow HW4.out (Nat.le_refl _) _
      clear HE5 HR4 HW4
      go_wp2
      go_loopw [20] (fun a wr => ∃ (k : Nat) (s' : St), k ≤ n ∧ a = .int .i64 k ∧ swf s' ∧ s'.rs.getD 7 0 = x ∧ wr.heap[w.heap.size]? = some (.cells (sL s').toArray 26 (0, 0)) ∧ Below w.heap.size w wr) (fun a _ => n - (intOf a).toNat)
      case atStart => exact ⟨0, s1, by omega, rfl, HS1.out, H17.out, HR5.out, HW5.out⟩
      case round =>
        clear HR5 HW5
        obtain ⟨k, s', hk, rfl, hs', h7, hr5, hb⟩ := hrel
        by_cases hlt : k < n
        · have hkI : (k : Int) < (n : Int) := by omega
          obtain ⟨i, hi, _⟩ := HX.out k hlt
          obtain ⟨hiw, b, o, rfl, hr⟩ := HR.out k i hi
          have hrw : wr.rangeAt b (o + k * 5) (iL i) := fun j u hj => ((hb.cell (block_lt (hr j u hj))).trans (hr j u hj))
          have hcd : wr.cell? ⟨b, o + k * 5 + 1, none⟩ = some (.int .i64 i.d) := hrw 1 _ rfl
          by_cases h7d : i.d = 7
          · have hd : (i.d != 7) = false := by rw [bne_eq_false_iff_eq]; exact h7d
            have HEN : Hid (∃ (k' : Nat) (s2 : St), k' ≤ n ∧ (Value.int .i64 ((k : Int) + 1)) = .int .i64 k' ∧ swf s2 ∧ s2.rs.getD 7 0 = x ∧ wr.heap[w.heap.size]? = some (.cells (sL s2).toArray 26 (0, 0)) ∧ Below w.heap.size w wr) := ⟨k + 1, s', by omega, by go_num, hs', h7, hr5, hb⟩
            clear hi hr hrw h7d hs' h7 hr5 hb hiw
            go_wp2
            go_roundw
            case rel => exact HEN.out
            case measure => simp [intOf]; omega
          · have hd : (i.d != 7) = true := by rw [bne_iff_ne]; exact h7d
            have hu1 : u64 (IntKind.u64.wrap (x + 1)) := by unfold u64; rw [IntKind.wrap_u64]; omega
            have hD7 := doR_seven s' i (IntKind.u64.wrap (x + 1)) (fun _ => h7d)
            have hw2 := doR_wf hs' i (IntKind.u64.wrap (x + 1)) hu1
            have hDO : ∀ W, Calls Tryd.prog 12 #[.agg (sL s').toArray, .agg (iL i).toArray, .int .u64 (IntKind.u64.wrap (x + 1))] W fun e w' => e = .returned (.tuple #[.agg (sL (doR s' i (IntKind.u64.wrap (x + 1))).1).toArray, .agg (eL (doR s' i (IntKind.u64.wrap (x + 1))).2.1 (doR s' i (IntKind.u64.wrap (x + 1))).2.2).toArray]) ∧ Below W.heap.size W w' := fun W => do_any s' hs' i hiw _ hu1 W
            rw [h7] at hD7
            generalize (doR s' i (IntKind.u64.wrap (x + 1))).2.1 = e1 at *
            generalize (doR s' i (IntKind.u64.wrap (x + 1))).2.2 = e2 at *
            generalize (doR s' i (IntKind.u64.wrap (x + 1))).1 = s2 at *
            have HS2 : Hid (swf s2) := hw2
            have H27 : Hid (s2.rs.getD 7 0 = x) := hD7
            have HDO : Hid (∀ W, Calls Tryd.prog 12 #[.agg (sL s').toArray, .agg (iL i).toArray, .int .u64 (IntKind.u64.wrap (x + 1))] W fun e w' => e = .returned (.tuple #[.agg (sL s2).toArray, .agg (eL e1 e2).toArray]) ∧ Below W.heap.size W w') := hDO
            have HSN : Hid ((sL s').length = 9) := sL_len hs'
            have HS0 : Hid (wr.drew.rangeAt b (o + k * 5) (iL i)) := hrw
            have HBL : Hid (b < w.heap.size) := block_lt (hr 0 _ rfl)
            have HLN : Hid ((iL i).length = 5) := rfl
            have HRD : Hid (wr.drew.heap[w.heap.size]? = some (.cells (sL s').toArray 26 (0, 0))) := hr5
            have HBD : Hid (Below w.heap.size w wr.drew) := hb.drew
            clear hi hr h7d hs' h7 hr5 hb hiw hrw hD7 hw2 hDO hu1
            go_upto_region 24 with fail
            clear hcd hd
            refine wp_region_held_drew (S := fun X => X.rangeAt b (o + k * 5) (iL i)) (by kernel_rfl) HS0.out (fun hHeld => ?_)
            generalize wr.drew = V at *
            refine wpAnyH_take (i := 1) (oi := { dst := some 115, op := Go.Op.move (Go.Operand.tmp 0), type := 22, pos := _, after := #[], guard := none }) (v := .slice (some ⟨b, o, none⟩) n cv) rfl (by kernel_rfl) (by kernel_rfl) (by kernel_rfl) (fun _ _ _ h => h) (Or.inl ⟨by rfl, fun w' hw' => ?_⟩) hHeld ?_
            · first | (go_simp; done) | (go_simp; rfl)
            try simp only [Act.put, List.setIfInBounds_toArray, List.set_cons_zero, List.set_cons_succ]
            refine wpAnyH_take (i := 2) (oi := { dst := some 116, op := Go.Op.move (Go.Operand.tmp 20), type := 3, pos := _, after := #[], guard := none }) (v := .int .i64 (k : Int)) rfl (by kernel_rfl) (by kernel_rfl) (by kernel_rfl) (fun _ _ _ h => h) (Or.inl ⟨by rfl, fun w' hw' => ?_⟩) hHeld ?_
            · first | (go_simp; done) | (go_simp; rfl)
            try simp only [Act.put, List.setIfInBounds_toArray, List.set_cons_zero, List.set_cons_succ]
            refine wpAnyH_take (i := 3) (oi := { dst := some 117, op := Go.Op.indexAddr 22 (Go.Operand.tmp 115) (Go.Operand.tmp 116), type := 0, pos := _, after := #[{ on := 1, ground := Go.Ground.data }, { on := 2, ground := Go.Ground.data }], guard := none }) (v := .pointer (some ⟨b, o + k * 5, none⟩)) rfl (by kernel_rfl) (by kernel_rfl) (by kernel_rfl) (fun _ _ _ h => h) (Or.inl ⟨by rfl, fun w' hw' => ?_⟩) hHeld ?_
            · first | (go_simp; done) | (go_simp; rfl)
            try simp only [Act.put, List.setIfInBounds_toArray, List.set_cons_zero, List.set_cons_succ]
            refine wpAnyH_take (i := 4) (oi := { dst := some 118, op := Go.Op.load 34 (Go.Operand.tmp 117), type := 34, pos := _, after := #[{ on := 3, ground := Go.Ground.data }], guard := none }) rfl (by kernel_rfl) (by kernel_rfl) (by kernel_rfl) (fun _ _ _ h => h) (yieldsIf_load_mid (by rfl) 34 (.tmp 117) rfl (b) (o + k * 5) rfl ((iL i)) _ (fun _ h => h) Tryd.underlying34 rfl (HII2.out _ HLN.out)) hHeld ?_
            try simp only [Act.put, List.setIfInBounds_toArray, List.set_cons_zero, List.set_cons_succ]
            refine wpAnyH_take (i := 5) (oi := { dst := some 119, op := Go.Op.move (Go.Operand.tmp 2), type := 23, pos := _, after := #[], guard := none }) (v := .int .u64 x) rfl (by kernel_rfl) (by kernel_rfl) (by kernel_rfl) (fun _ _ _ h => h) (Or.inl ⟨by rfl, fun w' hw' => ?_⟩) hHeld ?_
            · first | (go_simp; done) | (go_simp; rfl)
            try simp only [Act.put, List.setIfInBounds_toArray, List.set_cons_zero, List.set_cons_succ]
            refine wpAnyH_take (i := 6) (oi := { dst := some 120, op := Go.Op.binOp Go.BinOp.add 23 (Go.Operand.tmp 119) (Go.Operand.const (Go.Value.int Go.IntKind.u64 1)) 23, type := 23, pos := _, after := #[{ on := 5, ground := Go.Ground.data }], guard := none }) (v := .int .u64 (IntKind.u64.wrap (x + 1))) rfl (by kernel_rfl) (by kernel_rfl) (by kernel_rfl) (fun _ _ _ h => h) (Or.inl ⟨by rfl, fun w' hw' => ?_⟩) hHeld ?_
            · first | (go_simp; done) | (go_simp; rfl)
            try simp only [Act.put, List.setIfInBounds_toArray, List.set_cons_zero, List.set_cons_succ]
            refine wpAnyH_ready (rs := [0]) (by kernel_rfl) (by simp) ?_
            refine AllReadyH.cons (o := { dst := some 114, op := Go.Op.load 26 (Go.Operand.tmp 4), type := 26, pos := _, after := #[], guard := none }) rfl (fun K hK => ?_) AllReadyH.nil
            rw [if_pos (by rfl)]
            refine wp_load_mid 26 (.tmp 4) rfl w.heap.size 0 rfl (sL s') _ (rangeAt_row HRD.out) Tryd.underlying26 rfl (HCI2.out _ HSN.out) ?_
            refine hK.out _ _ hHeld (fun _ => ?_)
            clear hK K
            try simp only [Act.put, List.setIfInBounds_toArray, List.set_cons_zero, List.set_cons_succ]
            refine wpAnyH_ready (rs := [7]) (by kernel_rfl) (by simp) ?_
            refine AllReadyH.cons (o := { dst := some 121, op := Go.Op.call { callee := Go.Callee.value (Go.Operand.func 12), args := #[Go.Operand.tmp 114, Go.Operand.tmp 118, Go.Operand.tmp 120], argTypes := #[26, 34, 23] }, type := 47, pos := _, after := #[{ on := 0, ground := Go.Ground.data }, { on := 4, ground := Go.Ground.data }, { on := 6, ground := Go.Ground.data }], guard := none }) rfl (fun K hK => ?_) AllReadyH.nil
            rw [if_pos (by rfl)]
            go_wp2_with fail
            refine Calls.mono (HDO.out V) ?_
            rintro e V1 ⟨rfl, hX⟩
            have hH1 : V1.rangeAt b (o + k * 5) (iL i) := rangeAt_below hHeld hX
            have hr1 : V1.heap[w.heap.size]? = some (.cells (sL s').toArray 26 (0, 0)) := (hX.block _ (row_lt HRD.out)).trans HRD.out
            have HB1 : Hid (Below w.heap.size w V1) := HBD.out.trans (hX.mono HBD.out.size)
            clear hX
            refine hK.out _ _ hH1 (fun _ => ?_)
            clear hK K
            try simp only [Act.put, List.setIfInBounds_toArray, List.set_cons_zero, List.set_cons_succ]
            clear hHeld
            have hHeld := hH1
            clear hH1
            refine wpAnyH_take (i := 8) (oi := { dst := some 113, op := Go.Op.move (Go.Operand.tmp 121), type := 47, pos := _, after := #[{ on := 7, ground := Go.Ground.data }], guard := none }) (v := .tuple #[.agg (sL s2).toArray, .agg (eL e1 e2).toArray]) rfl (by kernel_rfl) (by kernel_rfl) (by kernel_rfl) (fun _ _ _ h => h) (Or.inl ⟨by rfl, fun w' hw' => ?_⟩) hHeld ?_
            · first | (go_simp; done) | (go_simp; rfl)
            try simp only [Act.put, List.setIfInBounds_toArray, List.set_cons_zero, List.set_cons_succ]
            refine wpAnyH_take (i := 9) (oi := { dst := some 122, op := Go.Op.extract (Go.Operand.tmp 113) 0, type := 26, pos := _, after := #[{ on := 8, ground := Go.Ground.data }], guard := none }) (v := .agg (sL s2).toArray) rfl (by kernel_rfl) (by kernel_rfl) (by kernel_rfl) (fun _ _ _ h => h) (Or.inl ⟨by rfl, fun w' hw' => ?_⟩) hHeld ?_
            · first | (go_simp; done) | (go_simp; rfl)
            try simp only [Act.put, List.setIfInBounds_toArray, List.set_cons_zero, List.set_cons_succ]
            refine wpAnyH_take (i := 10) (oi := { dst := some 123, op := Go.Op.extract (Go.Operand.tmp 113) 1, type := 46, pos := _, after := #[{ on := 8, ground := Go.Ground.data }, { on := 11, ground := Go.Ground.gcOnly Go.Departure.lateStores }], guard := none }) (v := .agg (eL e1 e2).toArray) rfl (by kernel_rfl) (by kernel_rfl) (by kernel_rfl) (fun _ _ _ h => h) (Or.inl ⟨by rfl, fun w' hw' => ?_⟩) hHeld ?_
            · first | (go_simp; done) | (go_simp; rfl)
            try simp only [Act.put, List.setIfInBounds_toArray, List.set_cons_zero, List.set_cons_succ]
            refine wpAnyH_ready (rs := [11]) (by kernel_rfl) (by simp) ?_
            refine AllReadyH.cons (o := { dst := none, op := Go.Op.store 26 (Go.Operand.tmp 4) (Go.Operand.tmp 122), type := 0, pos := _, after := #[{ on := 9, ground := Go.Ground.data }, { on := 7, ground := Go.Ground.chain }, { on := 0, ground := Go.Ground.phase }, { on := 1, ground := Go.Ground.phase }, { on := 2, ground := Go.Ground.phase }, { on := 3, ground := Go.Ground.phase }, { on := 4, ground := Go.Ground.phase }, { on := 5, ground := Go.Ground.phase }, { on := 6, ground := Go.Ground.phase }, { on := 7, ground := Go.Ground.phase }, { on := 8, ground := Go.Ground.phase }, { on := 9, ground := Go.Ground.phase }, { on := 10, ground := Go.Ground.textOnly Go.Departure.lateStores }], guard := none }) rfl (fun K hK => ?_) AllReadyH.nil
            rw [if_pos (by rfl)]
            refine wp_store_row 26 _ _ rfl w.heap.size (sL s2).toArray rfl rfl 26 (sL s').toArray hr1 (HCI.out _ (sL_len HS2.out)) (by simp [HSN.out, sL_len HS2.out]) (sL_one s2) ?_
            have hH2 : (V1.setRow w.heap.size (sL s2).toArray).rangeAt b (o + k * 5) (iL i) := fun j u hj => (World.cell?_of_block (a := ⟨b, o + k * 5 + j, none⟩) (setRow_other V1 w.heap.size b (sL s2).toArray (by have := HBL.out; omega))).trans (hHeld j u hj)
            refine hK.out _ _ hH2 (fun _ => ?_)
            clear hK K
            try simp only [Act.put, List.setIfInBounds_toArray, List.set_cons_zero, List.set_cons_succ]
            refine wpAnyH_done (by kernel_rfl) ?_ _
            have HR6 : Hid ((V1.setRow w.heap.size (sL s2).toArray).heap[w.heap.size]? = some (.cells (sL s2).toArray 26 (0, 0))) := setRow_heap _ _ _ _ _ _ hr1
            have HW6 : Hid (Below w.heap.size w (V1.setRow w.heap.size (sL s2).toArray)) := below_setRow HB1.out (Nat.le_refl _) _
            clear hHeld hH2 hr1
            go_wp2
            go_roundw
            case rel => exact ⟨k + 1, s2, by omega, by go_num, HS2.out, H27.out, HR6.out, HW6.out⟩
            case measure => simp [intOf]; omega
        · have hkI : ¬ (k : Int) < (n : Int) := by omega
          have h7c : wr.cell? ⟨w.heap.size, 7, none⟩ = some (.int .u64 x) := by rw [cell_of_row _ _ 7 _ _ _ hr5, List.getElem?_toArray, sL_reg hs' 7 (by decide), h7]; rfl
          have HBX : Hid (Below w.heap.size w wr) := hb
          clear hs' h7 hr5 hb
          go_wp2_with fail
          refine Calls.mono (num_any _ _) ?_
          rintro e wq ⟨rfl, rfl⟩
          go_wp2_with fail
          refine Calls.mono (HK.out _ (HGV.out _ HBX.out)) ?_
          rintro e V ⟨rfl, hX⟩
          go_wp2
          go_ret
          exact ⟨rfl, HBX.out.trans (hX.mono HBX.out.size)⟩
set_option maxRecDepth 100000 in
theorem lifted (os : Os) (started : os.Started) (H : Type) (enc : TypeId × Value → H) :
    ReturnsInHanded {} Tryd.checked os 3 .any (fun w args => (Rows.cpuLinesSpec.pre enc Tryd.prog Tryd.f3 [] false w args ∧ laidMetH Tryd.prog Rows.cpuLinesRow.laid w) ∧ sizedMet enc Tryd.prog Tryd.f3 (OpenSpec.ofChange Rows.cpuLinesSpec) false w args) (Rows.cpuLinesSpec.post enc Tryd.prog Tryd.f3 false true false false) := by
  refine returnsInHanded_of_change_and (C := Tryd.checked) (X := fun w _ => laidMetH Tryd.prog Rows.cpuLinesRow.laid w) (fun _ _ _ hh h => h.of_heap hh) own started (by kernel_rfl) Tryd.func3
    (ChangeSpec.witness_shaped (enc := enc) (C := Tryd.checked) (os := os) (X := fun w _ => laidMetH Tryd.prog Rows.cpuLinesRow.laid w) false (World.doorLaid Tryd.prog 400 os) #[.slice none 0 0, .agg (Array.replicate 9 (.int .u64 0)), .int .u64 0] 8 rfl (World.shaped_of_RefB (by kernel_rfl) (by kernel_rfl)) (by kernel_rfl) (by kernel_rfl) (by kernel_rfl) (door_met os _)) ?_
  intro W base args ds gs before hval0 hW hcnd _ hL _
  have hval : ∀ (j : Nat) t v, Tryd.f3.params[j]? = some t → args[j]? = some v → Value.okWide Tryd.prog W .any base t v := hval0
  have hW' := hW
  obtain ⟨p, q, hA0, hV, rfl, hfz, hnd⟩ := hW
  have hA : DataW.TrodAll enc Tryd.prog W 0 (fun _ => true) true Tryd.f3.params.toList args.toList ds p := hA0
  rw [Tryd.params3] at hA hval
  obtain ⟨v0, vs0, d0, ds0, p0, q0, hargs, rfl, rfl, h0, r0⟩ := trodAll_cons hA
  obtain ⟨v1, vs1, d1, ds1, p1, q1, rfl, rfl, rfl, h1, r1⟩ := trodAll_cons r0
  obtain ⟨v2, vs2, d2, ds2, p2, q2, rfl, rfl, rfl, h2, r2⟩ := trodAll_cons r1
  obtain ⟨rfl, rfl, rfl⟩ := trodAll_nil r2
  obtain rfl : args = #[v0, v1, v2] := by cases args; simp_all
  obtain ⟨rfl, rfl⟩ := trodVars_none hV
  obtain ⟨a0, len0, cap0, rfl⟩ := okWide_slice Tryd.underlying22 (hval 0 22 v0 rfl rfl)
  have k0 := h0
  have lt0 : ∀ x ∈ p0, x.block < W.heap.size := by obtain ⟨m, hm⟩ := k0; exact DataW.trod_lt m _ _ _ hm
  obtain ⟨l0, hl0, hm0⟩ : ∃ ls, JC.HJ W (.slice a0 len0 cap0) ls ∧ ls.length ≤ 9223372036854775807 := by obtain ⟨fuel, hf⟩ := h0; exact JC.open_js hf
  have k1 := h1
  have lt1 : ∀ x ∈ p1, x.block < W.heap.size := by obtain ⟨m, hm⟩ := k1; exact DataW.trod_lt m _ _ _ hm
  obtain ⟨xs1, rfl⟩ := JC.okWide_str Tryd.underlying26 (hval 1 26 v1 rfl rfl)
  obtain ⟨s1, rfl, hl1⟩ : ∃ s : JC.St, xs1 = (JC.sL s).toArray ∧ JC.swf s := by obtain ⟨fuel, hf⟩ := h1; obtain ⟨s, e, h1⟩ := JC.open_cpu hf; exact ⟨s, by rw [← Array.toList_inj]; exact e, h1⟩
  obtain ⟨n2, rfl, rfl, rfl, w2⟩ := open_int Tryd.underlying23 (hval 2 23 v2 rfl rfl) h2
  clear hA0 hval0
  refine (walk _ l0 s1 n2 W hm0 hl0 hl1 w2 (of_laid hL)).mono fun e W' ⟨he, bel⟩ => ?_
  subst he
  exact ⟨_, rfl, _, _, _, [], _, [], hW', trodAll_mk1 (shut_bool Tryd.underlying4 _), (trodAll_cons_mk (Below.trod laidOut (by kernel_rfl) (of_decide_eq_true (by kernel_rfl)) k0 bel lt0) (trodAll_cons_mk (Below.trod laidOut (by kernel_rfl) (of_decide_eq_true (by kernel_rfl)) k1 bel lt1) (trodAll_cons_mk (shut_int Tryd.underlying23 w2) trodAll_mk0))), rfl, bel.frame _, fun h => by cases h⟩

theorem over : Rows.cpuLinesRow.holds Tryd.pinned (OpenSpec.ofChange Rows.cpuLinesSpec) :=
  OpenClaim.holds_of_wide 3 Tryd.f3 rfl rfl rfl rfl rfl rfl rfl ⟨rfl, rfl, rfl, rfl, rfl⟩ rfl rfl rfl rfl rfl (by kernel_rfl) Tryd.func3 (by kernel_rfl)
    (of_decide_eq_true (by kernel_rfl)) (by unfold Func.isWrapper; first | (rw [if_pos (by decide +kernel)]; kernel_rfl) | (rw [if_neg (by decide +kernel)]; exact ⟨rfl, rfl⟩))
    (fun os started H enc _ => lifted os started H enc)

theorem card : Rows.CpuLinesCardSaid :=
  Claim7.holds_tied_plain_at .later [] Rows.cpuLinesCard.laidKinds true Rows.cpuLinesCard.stood.harness Rows.cpuLinesCard.stood.looks
    over (fun _ h => by cases h) (by kernel_rfl) (fun _ h => by cases h) cpuLines_row_tie rfl ⟨rfl, rfl⟩ (by kernel_rfl) rfl
    (fun f fn hf hfn => by
      obtain rfl : f = 3 := Option.some.inj ((show Tryd.prog.funcNamed Rows.cpuLinesRow.func = some 3 by kernel_rfl).symm.trans hf) |>.symm
      obtain rfl : fn = Tryd.f3 := (Option.some.inj (Tryd.func3.symm.trans hfn)).symm
      exact ⟨by kernel_rfl, fun j t ht => by
        rw [Tryd.params3] at ht
        have hm : t ∈ [22, 26, 23] := by simpa using Array.mem_of_getElem? ht
        have hall : ([22, 26, 23].all fun u => !Tryd.prog.wantsStandIn u) = true := by kernel_rfl
        exact (show Tryd.prog.wantsStandIn t = false by simpa using List.all_eq_true.1 hall t hm)⟩)
    (by kernel_rfl)
end Go.Proofs.YtkpjfhphohanlabDoor.cpuLines
namespace Go.Proofs.YtkpjfhphohanlabDoor
theorem cpuLines_holds : Rows.CpuLinesCardSaid := cpuLines.card
#print axioms cpuLines_holds
end Go.Proofs.YtkpjfhphohanlabDoor
