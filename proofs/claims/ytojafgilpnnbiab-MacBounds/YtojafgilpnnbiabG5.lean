/- Contract of ref's Tag. -/
import Derived.Test.YtojafgilpnnbiabF5
import Derived.Test.YtojafgilpnnbiabH1
set_option linter.unusedVariables false
set_option linter.unusedSimpArgs false
namespace Go.Proofs.Ytojafgilpnnbiab
open Go.RowKit

theorem take_snoc (L : List UInt8) (n : Nat) (h : n < L.length) : L.take (n + 1) = L.take n ++ [L.getD n 0] := by
  rw [List.take_succ_eq_append_getElem h]; simp [List.getD, List.getElem?_eq_getElem h]
theorem map_getD (kb : List UInt8) (p : UInt8) (n : Nat) (h : n < kb.length) : (kb.map (· ^^^ p)).getD n 0 = kb.getD n 0 ^^^ p := by
  simp [List.getD, List.getElem?_eq_getElem h]


set_option maxHeartbeats 8000000 in
theorem refTag_any (kv bv : Value) (key b : List UInt8) (w : World) (hrk : key.length ≤ 4294967000) (hrb : b.length ≤ 4294967000) (hk : HB w kv key) (hb : HB w bv b) :
    Calls Try.prog 10 #[kv, bv] w fun e w' => e = .returned (.agg ((macL key b).map B8).toArray) ∧ Below w.heap.size w w' := by
  obtain ⟨kb, hkb⟩ : ∃ kb, kb = kblk key := ⟨_, rfl⟩
  obtain ⟨kl, hkl⟩ : ∃ kl, kl = keyL key := ⟨_, rfl⟩
  obtain ⟨Z, hZ⟩ : ∃ Z, Z = 64 - kl.length := ⟨_, rfl⟩
  have hkl64 : kl.length ≤ 64 := by rw [hkl]; exact keyL_len _
  have hkZ : kl.length + Z = 64 := by omega
  have HKB : Hid (kb = kl ++ List.replicate Z 0) := by show _ = _; rw [hkb, hZ, hkl]; rfl
  have HK64 : Hid (kb.length = 64) := by show _ = _; rw [hkb]; exact kblk_len _
  obtain ⟨I54, hI⟩ : ∃ I, I = kb.map (· ^^^ 54) := ⟨_, rfl⟩
  obtain ⟨O92, hO⟩ : ∃ O, O = kb.map (· ^^^ 92) := ⟨_, rfl⟩
  have HI64 : Hid (I54.length = 64) := by show _ = _; rw [hI, List.length_map]; exact HK64.out
  have HO64 : Hid (O92.length = 64) := by show _ = _; rw [hO, List.length_map]; exact HK64.out
  have HIG : Hid (∀ i, i < 64 → I54.getD i 0 = kb.getD i 0 ^^^ 54) := fun i hi => by rw [hI]; exact map_getD kb 54 i (by rw [HK64.out]; exact hi)
  have HOG : Hid (∀ i, i < 64 → O92.getD i 0 = kb.getD i 0 ^^^ 92) := fun i hi => by rw [hO]; exact map_getD kb 92 i (by rw [HK64.out]; exact hi)
  obtain ⟨D1, hD1⟩ : ∃ D1, D1 = shaL (I54 ++ b) := ⟨_, rfl⟩
  have hmac : macL key b = shaL (O92 ++ D1) := by rw [hD1, hO, hI, hkb]; rfl
  rw [hmac]
  have HD32 : Hid (D1.length = 32) := by show _ = _; rw [hD1]; exact shaL_len _
  have hs1 := fun v W hW => refSum_any v (I54 ++ b) W (by rw [List.length_append, HI64.out]; omega) hW
  have hs2 := fun v W hW => refSum_any v (O92 ++ D1) W (by rw [List.length_append, HO64.out, HD32.out]; omega) hW
  rw [← hD1] at hs1
  obtain ⟨DA, hDA⟩ : ∃ DA, DA = (D1.map B8).toArray := ⟨_, rfl⟩
  rw [← hDA] at hs1
  have hds : DA.size = 32 := by rw [hDA]; simp [HD32.out]
  have HDS : Hid ((32 : Nat) = DA.size) := hds.symm
  have HDD1 : Hid (DA.all (·.oneCell') = true) := by show _ = _; rw [hDA]; exact B8_onea _
  have HDA : Hid _ := hDA
  obtain ⟨RS, hRS⟩ : ∃ RS, RS = ((shaL (O92 ++ D1)).map B8).toArray := ⟨_, rfl⟩
  rw [← hRS] at hs2 ⊢
  have hrs : RS.size = 32 := by rw [hRS]; simp [shaL_len]
  have HRS : Hid ((32 : Nat) = RS.size) := hrs.symm
  have HRI : Hid ((Try.prog.info? 24).map (·.size) = some RS.size) := by show _ = _; rw [hrs]; kernel_rfl
  have HR1 : Hid (RS.all (·.oneCell') = true) := by show _ = _; rw [hRS]; exact B8_onea _
  have HBW : Hid _ := hb
  have HKW : Hid _ := hk
  obtain ⟨pb, capb, rfl, _⟩ := hb.cells
  obtain ⟨pk, capk, rfl, _⟩ := hk.cells
  by_cases hlong : 64 < key.length
  · have hkk : shaL key = kl := by rw [hkl]; unfold keyL; rw [if_pos hlong]
    have hlt : (64 : Int) < (key.length : Int) := by omega
    have hks := fun W hW => refSum_any (.slice pk key.length capk) key W (by omega) hW
    rw [hkk] at hks
    have hk32 : kl.length = 32 := by rw [← hkk]; exact shaL_len _
    obtain ⟨KD, hKD⟩ : ∃ KD, KD = (kl.map B8).toArray := ⟨_, rfl⟩
    rw [← hKD] at hks
    have hkds : KD.size = 32 := by rw [hKD]; simp [hk32]
    have HKDS : Hid ((32 : Nat) = KD.size) := hkds.symm
    have HKD1 : Hid (KD.all (·.oneCell') = true) := by show _ = _; rw [hKD]; exact B8_onea _
    have HKD : Hid _ := hKD
    have HK32 : Hid _ := hk32
    clear hkb hkl hZ hI hO hD1 hmac hk hb hDA hRS hkk hKD hk32
    go_enter Try.func10, Try.ntmps10
    go_wp2_with (at_builtin; refine wpList_appHB rfl (.const (.slice none 0 0)) (.tmp 11) rfl (w.heap.size + 1) (.slice none 0 0) _ [] key rfl rfl (World.ownsRow_nil _ _ _ _) (HB.alloc HKW.out _) (by simp; omega) (by simp) ?_; intro vS w1 hf1 hg1; rw [List.nil_append] at hf1; obtain ⟨p1, c1, rfl⟩ := hf1.form')
    have hc1 : Below (w.heap.size + 1) (w.alloc (.cells Z32 24)) w1 := (Below.refl _ _).grown hg1 (by simp) (fun j hj => by cases hj)
    have hb1 : Below w.heap.size w w1 := ((Below.refl _ _).alloc (Nat.le_refl _) _).trans (hc1.mono (by omega))
    have G1 : Hid (w1.heap[w.heap.size]? = some (.cells Z32 24 (0, 0))) := (hc1.block _ (by omega)).trans (heap_alloc_new _ _)
    have HK1 : Hid _ := HB.below HKW.out hb1
    have hs1s : w.heap.size + 1 ≤ w1.heap.size := row_lt G1.out
    clear hf1 hg1 hc1
    refine (hks _ HK1.out).mono ?_
    rintro e w2 ⟨rfl, hb2⟩
    have G2 : Hid _ := (hb2.block w.heap.size (by omega)).trans G1.out
    have hbw2 : Below w.heap.size w w2 := hb1.trans (hb2.mono (by omega))
    have hs2s := hb2.size
    have hsD2 := fun W => sliceDig W w2.heap.size
    clear hb2 hb1 G1 HK1 hks
    go_wp2_with fail
    refine upon_store w2.heap.size KD Z32 24 (heap_alloc_new _ _) HKDS.out HKD1.out ?_
    intro w3 HD3 hbD3
    have c3 : Below w2.heap.size w2 w3 := ((Below.refl _ _).alloc (Nat.le_refl _) _).trans hbD3
    have G3 : Hid _ := (c3.block w.heap.size (by omega)).trans G2.out
    have hbw3 : Below w.heap.size w w3 := hbw2.trans (c3.mono (by omega))
    have hs3s := c3.size
    have hd3 := HD3.out
    rw [HKD.out] at hd3
    have HB3 : Hid _ := HB.ofRow 32 HK32.out.symm (by rw [HK32.out]; decide) hd3
    clear hbD3 c3 HD3 hd3 G2 hbw2
    go_wp2_with (at_builtin; refine wpList_appHB rfl (.const (.slice none 0 0)) (.tmp 18) rfl (w.heap.size + 1) (.slice none 0 0) _ [] kl rfl rfl (World.ownsRow_nil _ _ _ _) HB3.out (by simp; omega) (by omega) ?_; intro vS wS hf1 hg1; rw [List.nil_append] at hf1; obtain ⟨pS, cS, rfl⟩ := hf1.form')
    have hc1 : Below (w.heap.size + 1) w3 wS := (Below.refl _ _).grown hg1 (by omega) (fun j hj => by cases hj)
    have hbS : Below w.heap.size w wS := hbw3.trans (hc1.mono (by omega))
    have GS : Hid _ := (hc1.block w.heap.size (by omega)).trans G3.out
    have HFS : Hid _ := hf1
    clear hf1 hg1 hc1 hbw3 G3 HB3
    have hsS : w.heap.size + 1 ≤ wS.heap.size := row_lt GS.out
    have hZ64 : Z ≤ 64 := by omega
    clear hlt
    go_loopw [5] (fun v wr => ∃ z : Nat, z ≤ Z ∧ FB (w.heap.size + 1) wr v (kl ++ List.replicate z 0) ∧ Below (w.heap.size + 1) wS wr) (fun v _ => 64 - lenV v)
    case atStart => exact ⟨0, Nat.zero_le _, by rw [show kl ++ List.replicate 0 (0 : UInt8) = kl by simp]; exact HFS.out, Below.refl _ _⟩
    case round =>
      obtain ⟨z, hz, hown, hbel⟩ := hrel
      have hsz : w.heap.size + 1 ≤ wr.heap.size := Nat.le_trans hsS hbel.size
      have hlen : (kl ++ List.replicate z (0 : UInt8)).length = kl.length + z := by simp
      obtain ⟨p, cp, rfl⟩ := hown.form'
      by_cases hzl : z < Z
      · have HO : Hid _ := hown
        have hl64 : ((kl ++ List.replicate z (0 : UInt8)).length : Int) < 64 := by rw [hlen]; omega
        have hlN : (kl ++ List.replicate z (0 : UInt8)).length ≤ 64 := by omega
        have hev : (kl ++ List.replicate z (0 : UInt8)) ++ [0] = kl ++ List.replicate (z + 1) 0 := by rw [List.replicate_succ', List.append_assoc]
        have HEV : Hid _ := hev
        have HLN : Hid _ := hlen
        clear hown hev hlen
        generalize kl ++ List.replicate z (0 : UInt8) = cur at *
        go_wp2_with (at_builtin; refine wpList_app1 rfl (.tmp 23) (.tmp 24) rfl (w.heap.size + 1) _ cur 0 rfl rfl rfl HO.out (by omega) (by omega) ?_; intro g3 cap3 w3 hf3 hgr3 hg3 hlt3)
        go_roundw
        case rel =>
          refine ⟨z + 1, by omega, ?_, (hbel.alloc hsz _).grown hgr3 (by simp; omega) (fun j hj => (FB.ge HO.out j hj).1)⟩
          rw [← HEV.out]; exact hf3
        case measure => have := HLN.out; simp [lenV]; omega
      · obtain ⟨wk, rfl⟩ : ∃ wk, wk = wr := ⟨_, rfl⟩
        have hzZ : z = Z := by omega
        rw [hzZ, ← HKB.out] at hown
        rw [hzZ, ← HKB.out, HK64.out]
        clear hlen hzl hz
        rcases hown.2 with ⟨h1, h2⟩ | ⟨gk, capk, curk, h1, h2, h3, h4, h5, h6⟩
        · exact absurd h2 (by rw [HK64.out]; decide)
        simp only [Value.slice.injEq] at h1
        obtain ⟨rfl, _, rfl⟩ := h1
        have hkc : ∀ i, i < 64 → wk.cell? ⟨gk, i, none⟩ = some (.int .u8 ((kb.getD i 0).toNat : Int)) := fun i hi => by
          have hi' : i < kb.length := by rw [HK64.out]; exact hi
          have := hown.cellAt (g := gk) i (by omega)
          rw [this, List.getElem?_map, List.getElem?_eq_getElem hi']
          simp [B8, List.getD, List.getElem?_eq_getElem hi']
        have HKC : Hid _ := hkc
        have hgk : gk < wk.heap.size := block_lt (hkc 0 (by decide))
        clear hkc hown h2 h3 h4 h5 h6
        go_wp2
        go_loopw [7, 8, 9] (fun vi vo n wr => ∃ m : Nat, m ≤ 64 ∧ n = .int .i64 m ∧ FB wk.heap.size wr vi (I54.take m) ∧ FB wk.heap.size wr vo (O92.take m) ∧ (∀ b, vi.ownBlock = some b → vo.ownBlock = some b → False) ∧ Below wk.heap.size wk wr) (fun _ _ n _ => 64 - (intOf n).toNat)
        case atStart => exact ⟨0, by omega, rfl, World.ownsRow_nil _ _ _ _, World.ownsRow_nil _ _ _ _, (fun b h => by cases h), Below.refl _ _⟩
        case round =>
          obtain ⟨m, hm, rfl, hfi, hfo, hdis, hbm⟩ := hrel
          have hsm := hbm.size
          by_cases hlm : m < 64
          · have hcx := (hbm.cell (p := ⟨gk, m, none⟩) hgk).trans (HKC.out m hlm)
            have hx1 := xor_u8 (kb.getD m 0) 54
            have hx2 := xor_u8 (kb.getD m 0) 92
            rw [show (((54 : UInt8).toNat : Nat) : Int) = 54 from rfl] at hx1
            rw [show (((92 : UInt8).toNat : Nat) : Int) = 92 from rfl] at hx2
            have hti := take_snoc I54 m (by rw [HI64.out]; exact hlm)
            have hto := take_snoc O92 m (by rw [HO64.out]; exact hlm)
            rw [HIG.out m hlm] at hti
            rw [HOG.out m hlm] at hto
            have hli : (I54.take m).length = m := by rw [List.length_take, HI64.out]; omega
            have hlo : (O92.take m).length = m := by rw [List.length_take, HO64.out]; omega
            have HTI : Hid _ := hti
            have HTO : Hid _ := hto
            have HFI : Hid _ := hfi
            have HFO : Hid _ := hfo
            have HDIS : Hid _ := hdis
            generalize kb.getD m 0 ^^^ 54 = y1 at *
            generalize kb.getD m 0 ^^^ 92 = y2 at *
            generalize kb.getD m 0 = x at *
            obtain ⟨Li, hLi⟩ : ∃ Li, Li = I54.take m := ⟨_, rfl⟩
            obtain ⟨Lo, hLo⟩ : ∃ Lo, Lo = O92.take m := ⟨_, rfl⟩
            have HLi : Hid _ := hLi
            have HLo : Hid _ := hLo
            rw [← hLi] at hli
            rw [← hLo] at hlo
            clear hfi hfo hdis hti hto hLi hLo
            have hcx3 : ∀ w3 : World, (wr.alloc (.cells #[Value.int .u8 ((y1.toNat : Nat) : Int)] 5)).grownBy w3 u7.ownBlock → w3.cell? ⟨gk, m, none⟩ = some (.int .u8 (x.toNat : Int)) := fun w3 hg => by
              have hne : some gk ≠ u7.ownBlock := fun e => by have := (FB.ge HFI.out gk e.symm).1; omega
              have h1 := World.cell?_of_block (a := ⟨gk, m, none⟩) (hg.block gk (by simp; omega) hne)
              rw [h1]; exact cell_alloc_keep _ hcx
            have HCX3 : Hid _ := hcx3
            clear hcx3
            have hFO3 : ∀ w3 : World, (wr.alloc (.cells #[Value.int .u8 ((y1.toNat : Nat) : Int)] 5)).grownBy w3 u7.ownBlock → FB wk.heap.size w3 u8 Lo := fun w3 hgr3 => by
              refine FB.grown (by rw [HLo.out]; exact FB.alloc HFO.out _) hgr3 ?_
              cases e : u8.ownBlock with
              | none => exact .inl rfl
              | some b => exact .inr (fun e2 => HDIS.out b e2.symm e)
            have hB3 : ∀ w3 : World, (wr.alloc (.cells #[Value.int .u8 ((y1.toNat : Nat) : Int)] 5)).grownBy w3 u7.ownBlock → Below wk.heap.size wk w3 := fun w3 hgr3 => (hbm.alloc hsm _).grown hgr3 (by simp; omega) (fun j hj => (FB.ge HFI.out j hj).1)
            have HFOf : Hid _ := hFO3
            have HB3f : Hid _ := hB3
            clear hFO3 hB3
            go_wp2_with (first
              | (at_builtin; refine wpList_app1 rfl (.tmp 30) (.tmp 36) rfl wk.heap.size u7 Li y1 rfl rfl rfl (by rw [HLi.out]; exact HFI.out) (by omega) hsm ?_; intro g3 cap3 w3 hf3 hgr3 hg3 hlt3; have hc3 := HCX3.out w3 hgr3; have HFO3 : Hid _ := HFOf.out w3 hgr3; have HB3' : Hid _ := HB3f.out w3 hgr3; have hs3 := HB3'.out.size; have HF3 : Hid _ := hf3; clear hf3 hgr3)
              | (at_builtin; refine wpList_app1 rfl (.tmp 38) (.tmp 44) rfl wk.heap.size u8 Lo y2 rfl rfl rfl HFO3.out (by omega) hs3 ?_; intro g4 cap4 w4 hf4 hgr4 hg4 hlt4))
            have hb3 := HB3'.out
            have HD3 : Hid (∀ b, some g3 = some b → u8.ownBlock = some b → False) := fun b e1 e2 => by
              simp only [Option.some.injEq] at e1
              subst e1
              rcases hg3 with h | h
              · exact HDIS.out g3 h e2
              · have := (FB.ge HFO.out g3 e2).2; omega
            go_roundw
            case rel =>
              refine ⟨m + 1, by omega, by go_num, ?_, ?_, ?_, (hb3.alloc hs3 _).grown hgr4 (by simp; omega) (fun j hj => (FB.ge HFO3.out j hj).1)⟩
              · rw [HTI.out, ← HLi.out]
                have hf3 := HF3.out
                rw [hli] at hf3
                refine FB.grown (FB.alloc hf3 _) hgr4 (.inr ?_)
                intro e
                exact HD3.out g3 rfl e.symm
              · rw [HTO.out, ← HLo.out]; rw [hlo] at hf4; exact hf4
              · intro b e1 e2
                simp only [Value.ownBlock, Option.some.injEq] at e1 e2
                subst e1
                rcases hg4 with h | h
                · exact HD3.out g3 rfl (by rw [h, e2])
                · omega
            case measure => simp [intOf]; omega
          · have hm64 : m = 64 := by omega
            rw [hm64, List.take_of_length_le (by rw [HI64.out]; exact Nat.le_refl _)] at hfi
            rw [hm64, List.take_of_length_le (by rw [HO64.out]; exact Nat.le_refl _)] at hfo
            have hc0 : Below (w.heap.size + 1) wS wr := hbel.trans (hbm.mono (by omega))
            have HBr : Hid _ := HB.below HBW.out (hbS.trans (hc0.mono (by omega)))
            have HFI : Hid _ := hfi
            have HFO : Hid _ := hfo
            have HDIS : Hid _ := hdis
            rw [show (m : Int) = 64 by omega]
            clear hfi hfo hdis hm hlm hm64
            go_wp2_with (at_builtin; refine wpList_appHB rfl (.tmp 46) (.tmp 47) rfl wk.heap.size u7 _ I54 b rfl rfl HFI.out HBr.out (by rw [HI64.out]; omega) hsm ?_; intro v5 w5 hf5 hg5)
            have hc5 : Below (w.heap.size + 1) wS w5 := hc0.grown hg5 (by omega) (fun j hj => by have := (FB.ge HFI.out j hj).1; omega)
            have HFO5 : Hid (FB wk.heap.size w5 u8 O92) := by
              refine FB.grown HFO.out hg5 ?_
              cases e : u8.ownBlock with
              | none => exact .inl rfl
              | some b => exact .inr (fun e2 => HDIS.out b e2.symm e)
            have hs5 : wk.heap.size ≤ w5.heap.size := by have := hg5.size; omega
            have HB5 : Hid _ := hf5.hb
            clear hf5 hg5 HFI HFO HDIS HBr hc0
            refine (hs1 _ _ HB5.out).mono ?_
            rintro e w6 ⟨rfl, hb6⟩
            have hc6 : Below (w.heap.size + 1) wS w6 := hc5.trans (hb6.mono (by omega))
            have HFO6 : Hid _ := FB.below HFO5.out hb6
            have hs6 := hb6.size
            have hsD := fun W => sliceDig W w6.heap.size
            clear hb6 hc5 HFO5 HB5
            go_wp2_with fail
            refine upon_store w6.heap.size DA Z32 24 (heap_alloc_new _ _) HDS.out HDD1.out ?_
            intro wD HD hbD
            have cD : Below w6.heap.size w6 wD := ((Below.refl _ _).alloc (Nat.le_refl _) _).trans hbD
            have hcD : Below (w.heap.size + 1) wS wD := hc6.trans (cD.mono (by omega))
            have HFOD : Hid _ := FB.below HFO6.out cD
            have hsDD := cD.size
            have hd := HD.out
            rw [HDA.out] at hd
            have HBD : Hid _ := HB.ofRow 32 HD32.out.symm (by rw [HD32.out]; decide) hd
            clear hbD cD hc6 HFO6 HD hd
            go_wp2_with (at_builtin; refine wpList_appHB rfl (.tmp 50) (.tmp 51) rfl wk.heap.size u8 _ O92 D1 rfl rfl HFOD.out HBD.out (by rw [HO64.out, HD32.out]; decide) (by omega) ?_; intro v7 w7 hf7 hg7)
            have hc7 : Below (w.heap.size + 1) wS w7 := hcD.grown hg7 (by omega) (fun j hj => by have := (FB.ge HFOD.out j hj).1; omega)
            have HB7 : Hid _ := hf7.hb
            have hs7 := hg7.size
            clear hf7 hg7 hcD HFOD HBD
            refine (hs2 _ _ HB7.out).mono ?_
            rintro e w8 ⟨rfl, hb8⟩
            have hc8 : Below (w.heap.size + 1) wS w8 := hc7.trans (hb8.mono (by omega))
            have HG8 : Hid _ := (hc8.block w.heap.size (by omega)).trans GS.out
            clear hb8 hc7 HB7
            go_wp2_with fail
            refine upon_store w.heap.size RS Z32 24 HG8.out HRS.out HR1.out ?_
            intro wF HF hbF
            have hbw : Below w.heap.size w wF := (hbS.trans (hc8.mono (by omega))).trans hbF
            clear hbF hc8
            go_wp2
            refine bodyPost_ret (v := .agg RS) ?_ rfl ⟨rfl, hbw⟩
            exact results_cell_row Try.results10 _ _ w.heap.size 24 _ (0, 0) _ rfl HF.out Try.underlying24 rfl HRI.out
  · have hkk : kl = key := by rw [hkl]; unfold keyL; rw [if_neg hlong]
    have hlt : ¬ (64 : Int) < (key.length : Int) := by omega
    clear hkb hkl hZ hI hO hD1 hmac hk hb hDA hRS
    subst hkk
    go_enter Try.func10, Try.ntmps10
    go_wp2_with (at_builtin; refine wpList_appHB rfl (.const (.slice none 0 0)) (.tmp 11) rfl (w.heap.size + 1) (.slice none 0 0) _ [] kl rfl rfl (World.ownsRow_nil _ _ _ _) (HB.alloc HKW.out _) (by simp; omega) (by simp) ?_; intro vS wS hf1 hg1; rw [List.nil_append] at hf1; obtain ⟨pS, cS, rfl⟩ := hf1.form')
    have hc1 : Below (w.heap.size + 1) (w.alloc (.cells Z32 24)) wS := (Below.refl _ _).grown hg1 (by simp) (fun j hj => by cases hj)
    have hbS : Below w.heap.size w wS := ((Below.refl _ _).alloc (Nat.le_refl _) _).trans (hc1.mono (by omega))
    have GS : Hid (wS.heap[w.heap.size]? = some (.cells Z32 24 (0, 0))) := (hc1.block _ (by omega)).trans (heap_alloc_new _ _)
    have HFS : Hid _ := hf1
    clear hf1 hg1 hc1
    have hsS : w.heap.size + 1 ≤ wS.heap.size := row_lt GS.out
    have hZ64 : Z ≤ 64 := by omega
    clear hlt
    go_loopw [5] (fun v wr => ∃ z : Nat, z ≤ Z ∧ FB (w.heap.size + 1) wr v (kl ++ List.replicate z 0) ∧ Below (w.heap.size + 1) wS wr) (fun v _ => 64 - lenV v)
    case atStart => exact ⟨0, Nat.zero_le _, by rw [show kl ++ List.replicate 0 (0 : UInt8) = kl by simp]; exact HFS.out, Below.refl _ _⟩
    case round =>
      obtain ⟨z, hz, hown, hbel⟩ := hrel
      have hsz : w.heap.size + 1 ≤ wr.heap.size := Nat.le_trans hsS hbel.size
      have hlen : (kl ++ List.replicate z (0 : UInt8)).length = kl.length + z := by simp
      obtain ⟨p, cp, rfl⟩ := hown.form'
      by_cases hzl : z < Z
      · have HO : Hid _ := hown
        have hl64 : ((kl ++ List.replicate z (0 : UInt8)).length : Int) < 64 := by rw [hlen]; omega
        have hlN : (kl ++ List.replicate z (0 : UInt8)).length ≤ 64 := by omega
        have hev : (kl ++ List.replicate z (0 : UInt8)) ++ [0] = kl ++ List.replicate (z + 1) 0 := by rw [List.replicate_succ', List.append_assoc]
        have HEV : Hid _ := hev
        have HLN : Hid _ := hlen
        clear hown hev hlen
        generalize kl ++ List.replicate z (0 : UInt8) = cur at *
        go_wp2_with (at_builtin; refine wpList_app1 rfl (.tmp 23) (.tmp 24) rfl (w.heap.size + 1) _ cur 0 rfl rfl rfl HO.out (by omega) (by omega) ?_; intro g3 cap3 w3 hf3 hgr3 hg3 hlt3)
        go_roundw
        case rel =>
          refine ⟨z + 1, by omega, ?_, (hbel.alloc hsz _).grown hgr3 (by simp; omega) (fun j hj => (FB.ge HO.out j hj).1)⟩
          rw [← HEV.out]; exact hf3
        case measure => have := HLN.out; simp [lenV]; omega
      · obtain ⟨wk, rfl⟩ : ∃ wk, wk = wr := ⟨_, rfl⟩
        have hzZ : z = Z := by omega
        rw [hzZ, ← HKB.out] at hown
        rw [hzZ, ← HKB.out, HK64.out]
        clear hlen hzl hz
        rcases hown.2 with ⟨h1, h2⟩ | ⟨gk, capk, curk, h1, h2, h3, h4, h5, h6⟩
        · exact absurd h2 (by rw [HK64.out]; decide)
        simp only [Value.slice.injEq] at h1
        obtain ⟨rfl, _, rfl⟩ := h1
        have hkc : ∀ i, i < 64 → wk.cell? ⟨gk, i, none⟩ = some (.int .u8 ((kb.getD i 0).toNat : Int)) := fun i hi => by
          have hi' : i < kb.length := by rw [HK64.out]; exact hi
          have := hown.cellAt (g := gk) i (by omega)
          rw [this, List.getElem?_map, List.getElem?_eq_getElem hi']
          simp [B8, List.getD, List.getElem?_eq_getElem hi']
        have HKC : Hid _ := hkc
        have hgk : gk < wk.heap.size := block_lt (hkc 0 (by decide))
        clear hkc hown h2 h3 h4 h5 h6
        go_wp2
        go_loopw [7, 8, 9] (fun vi vo n wr => ∃ m : Nat, m ≤ 64 ∧ n = .int .i64 m ∧ FB wk.heap.size wr vi (I54.take m) ∧ FB wk.heap.size wr vo (O92.take m) ∧ (∀ b, vi.ownBlock = some b → vo.ownBlock = some b → False) ∧ Below wk.heap.size wk wr) (fun _ _ n _ => 64 - (intOf n).toNat)
        case atStart => exact ⟨0, by omega, rfl, World.ownsRow_nil _ _ _ _, World.ownsRow_nil _ _ _ _, (fun b h => by cases h), Below.refl _ _⟩
        case round =>
          obtain ⟨m, hm, rfl, hfi, hfo, hdis, hbm⟩ := hrel
          have hsm := hbm.size
          by_cases hlm : m < 64
          · have hcx := (hbm.cell (p := ⟨gk, m, none⟩) hgk).trans (HKC.out m hlm)
            have hx1 := xor_u8 (kb.getD m 0) 54
            have hx2 := xor_u8 (kb.getD m 0) 92
            rw [show (((54 : UInt8).toNat : Nat) : Int) = 54 from rfl] at hx1
            rw [show (((92 : UInt8).toNat : Nat) : Int) = 92 from rfl] at hx2
            have hti := take_snoc I54 m (by rw [HI64.out]; exact hlm)
            have hto := take_snoc O92 m (by rw [HO64.out]; exact hlm)
            rw [HIG.out m hlm] at hti
            rw [HOG.out m hlm] at hto
            have hli : (I54.take m).length = m := by rw [List.length_take, HI64.out]; omega
            have hlo : (O92.take m).length = m := by rw [List.length_take, HO64.out]; omega
            have HTI : Hid _ := hti
            have HTO : Hid _ := hto
            have HFI : Hid _ := hfi
            have HFO : Hid _ := hfo
            have HDIS : Hid _ := hdis
            generalize kb.getD m 0 ^^^ 54 = y1 at *
            generalize kb.getD m 0 ^^^ 92 = y2 at *
            generalize kb.getD m 0 = x at *
            obtain ⟨Li, hLi⟩ : ∃ Li, Li = I54.take m := ⟨_, rfl⟩
            obtain ⟨Lo, hLo⟩ : ∃ Lo, Lo = O92.take m := ⟨_, rfl⟩
            have HLi : Hid _ := hLi
            have HLo : Hid _ := hLo
            rw [← hLi] at hli
            rw [← hLo] at hlo
            clear hfi hfo hdis hti hto hLi hLo
            have hcx3 : ∀ w3 : World, (wr.alloc (.cells #[Value.int .u8 ((y1.toNat : Nat) : Int)] 5)).grownBy w3 u7.ownBlock → w3.cell? ⟨gk, m, none⟩ = some (.int .u8 (x.toNat : Int)) := fun w3 hg => by
              have hne : some gk ≠ u7.ownBlock := fun e => by have := (FB.ge HFI.out gk e.symm).1; omega
              have h1 := World.cell?_of_block (a := ⟨gk, m, none⟩) (hg.block gk (by simp; omega) hne)
              rw [h1]; exact cell_alloc_keep _ hcx
            have HCX3 : Hid _ := hcx3
            clear hcx3
            have hFO3 : ∀ w3 : World, (wr.alloc (.cells #[Value.int .u8 ((y1.toNat : Nat) : Int)] 5)).grownBy w3 u7.ownBlock → FB wk.heap.size w3 u8 Lo := fun w3 hgr3 => by
              refine FB.grown (by rw [HLo.out]; exact FB.alloc HFO.out _) hgr3 ?_
              cases e : u8.ownBlock with
              | none => exact .inl rfl
              | some b => exact .inr (fun e2 => HDIS.out b e2.symm e)
            have hB3 : ∀ w3 : World, (wr.alloc (.cells #[Value.int .u8 ((y1.toNat : Nat) : Int)] 5)).grownBy w3 u7.ownBlock → Below wk.heap.size wk w3 := fun w3 hgr3 => (hbm.alloc hsm _).grown hgr3 (by simp; omega) (fun j hj => (FB.ge HFI.out j hj).1)
            have HFOf : Hid _ := hFO3
            have HB3f : Hid _ := hB3
            clear hFO3 hB3
            go_wp2_with (first
              | (at_builtin; refine wpList_app1 rfl (.tmp 30) (.tmp 36) rfl wk.heap.size u7 Li y1 rfl rfl rfl (by rw [HLi.out]; exact HFI.out) (by omega) hsm ?_; intro g3 cap3 w3 hf3 hgr3 hg3 hlt3; have hc3 := HCX3.out w3 hgr3; have HFO3 : Hid _ := HFOf.out w3 hgr3; have HB3' : Hid _ := HB3f.out w3 hgr3; have hs3 := HB3'.out.size; have HF3 : Hid _ := hf3; clear hf3 hgr3)
              | (at_builtin; refine wpList_app1 rfl (.tmp 38) (.tmp 44) rfl wk.heap.size u8 Lo y2 rfl rfl rfl HFO3.out (by omega) hs3 ?_; intro g4 cap4 w4 hf4 hgr4 hg4 hlt4))
            have hb3 := HB3'.out
            have HD3 : Hid (∀ b, some g3 = some b → u8.ownBlock = some b → False) := fun b e1 e2 => by
              simp only [Option.some.injEq] at e1
              subst e1
              rcases hg3 with h | h
              · exact HDIS.out g3 h e2
              · have := (FB.ge HFO.out g3 e2).2; omega
            go_roundw
            case rel =>
              refine ⟨m + 1, by omega, by go_num, ?_, ?_, ?_, (hb3.alloc hs3 _).grown hgr4 (by simp; omega) (fun j hj => (FB.ge HFO3.out j hj).1)⟩
              · rw [HTI.out, ← HLi.out]
                have hf3 := HF3.out
                rw [hli] at hf3
                refine FB.grown (FB.alloc hf3 _) hgr4 (.inr ?_)
                intro e
                exact HD3.out g3 rfl e.symm
              · rw [HTO.out, ← HLo.out]; rw [hlo] at hf4; exact hf4
              · intro b e1 e2
                simp only [Value.ownBlock, Option.some.injEq] at e1 e2
                subst e1
                rcases hg4 with h | h
                · exact HD3.out g3 rfl (by rw [h, e2])
                · omega
            case measure => simp [intOf]; omega
          · have hm64 : m = 64 := by omega
            rw [hm64, List.take_of_length_le (by rw [HI64.out]; exact Nat.le_refl _)] at hfi
            rw [hm64, List.take_of_length_le (by rw [HO64.out]; exact Nat.le_refl _)] at hfo
            have hc0 : Below (w.heap.size + 1) wS wr := hbel.trans (hbm.mono (by omega))
            have HBr : Hid _ := HB.below HBW.out (hbS.trans (hc0.mono (by omega)))
            have HFI : Hid _ := hfi
            have HFO : Hid _ := hfo
            have HDIS : Hid _ := hdis
            rw [show (m : Int) = 64 by omega]
            clear hfi hfo hdis hm hlm hm64
            go_wp2_with (at_builtin; refine wpList_appHB rfl (.tmp 46) (.tmp 47) rfl wk.heap.size u7 _ I54 b rfl rfl HFI.out HBr.out (by rw [HI64.out]; omega) hsm ?_; intro v5 w5 hf5 hg5)
            have hc5 : Below (w.heap.size + 1) wS w5 := hc0.grown hg5 (by omega) (fun j hj => by have := (FB.ge HFI.out j hj).1; omega)
            have HFO5 : Hid (FB wk.heap.size w5 u8 O92) := by
              refine FB.grown HFO.out hg5 ?_
              cases e : u8.ownBlock with
              | none => exact .inl rfl
              | some b => exact .inr (fun e2 => HDIS.out b e2.symm e)
            have hs5 : wk.heap.size ≤ w5.heap.size := by have := hg5.size; omega
            have HB5 : Hid _ := hf5.hb
            clear hf5 hg5 HFI HFO HDIS HBr hc0
            refine (hs1 _ _ HB5.out).mono ?_
            rintro e w6 ⟨rfl, hb6⟩
            have hc6 : Below (w.heap.size + 1) wS w6 := hc5.trans (hb6.mono (by omega))
            have HFO6 : Hid _ := FB.below HFO5.out hb6
            have hs6 := hb6.size
            have hsD := fun W => sliceDig W w6.heap.size
            clear hb6 hc5 HFO5 HB5
            go_wp2_with fail
            refine upon_store w6.heap.size DA Z32 24 (heap_alloc_new _ _) HDS.out HDD1.out ?_
            intro wD HD hbD
            have cD : Below w6.heap.size w6 wD := ((Below.refl _ _).alloc (Nat.le_refl _) _).trans hbD
            have hcD : Below (w.heap.size + 1) wS wD := hc6.trans (cD.mono (by omega))
            have HFOD : Hid _ := FB.below HFO6.out cD
            have hsDD := cD.size
            have hd := HD.out
            rw [HDA.out] at hd
            have HBD : Hid _ := HB.ofRow 32 HD32.out.symm (by rw [HD32.out]; decide) hd
            clear hbD cD hc6 HFO6 HD hd
            go_wp2_with (at_builtin; refine wpList_appHB rfl (.tmp 50) (.tmp 51) rfl wk.heap.size u8 _ O92 D1 rfl rfl HFOD.out HBD.out (by rw [HO64.out, HD32.out]; decide) (by omega) ?_; intro v7 w7 hf7 hg7)
            have hc7 : Below (w.heap.size + 1) wS w7 := hcD.grown hg7 (by omega) (fun j hj => by have := (FB.ge HFOD.out j hj).1; omega)
            have HB7 : Hid _ := hf7.hb
            have hs7 := hg7.size
            clear hf7 hg7 hcD HFOD HBD
            refine (hs2 _ _ HB7.out).mono ?_
            rintro e w8 ⟨rfl, hb8⟩
            have hc8 : Below (w.heap.size + 1) wS w8 := hc7.trans (hb8.mono (by omega))
            have HG8 : Hid _ := (hc8.block w.heap.size (by omega)).trans GS.out
            clear hb8 hc7 HB7
            go_wp2_with fail
            refine upon_store w.heap.size RS Z32 24 HG8.out HRS.out HR1.out ?_
            intro wF HF hbF
            have hbw : Below w.heap.size w wF := (hbS.trans (hc8.mono (by omega))).trans hbF
            clear hbF hc8
            go_wp2
            refine bodyPost_ret (v := .agg RS) ?_ rfl ⟨rfl, hbw⟩
            exact results_cell_row Try.results10 _ _ w.heap.size 24 _ (0, 0) _ rfl HF.out Try.underlying24 rfl HRI.out

end Go.Proofs.Ytojafgilpnnbiab
