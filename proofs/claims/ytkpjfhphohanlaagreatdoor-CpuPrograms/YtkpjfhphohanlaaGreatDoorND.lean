/- cpu: words as a text (the program's Listing): the walk. -/
import Derived.Test.YtkpjfhphohanlaaGreatDoorNC
set_option linter.unusedVariables false
set_option linter.unusedSimpArgs false
namespace Go.Proofs.YtkpjfhphohanlaaGreatDoor.JC
open Go.RowKit
open Go.Proofs.YtkpjfhphohanlaaGreatDoor.EC (row_lt heap_at rangeAt_below rangeAt_row ret_bool ret_i64 beq_int)

set_option maxHeartbeats 1000000 in
set_option maxRecDepth 100000 in
theorem list_any (v : Value) (ls : List Int) (hl : ls.length ≤ 512) (w : World) (hG : GV w) (h : HU w v ls) : Calls Tryz.prog 9 #[v] w fun e w' => e = .returned (lsRes ls) ∧ Below w.heap.size w w' := by
  obtain ⟨p, cap, rfl, hcap, hr⟩ := h
  have HR : Hid (∀ i x, ls[i]? = some x → u64 x ∧ ∃ b o, p = some ⟨b, o, none⟩ ∧ w.cell? ⟨b, o + i, none⟩ = some (.int .u64 x)) := hr
  have HX : Hid (∀ k, k < ls.length → ∃ x, ls[k]? = some x) := fun k hk => ⟨ls[k], List.getElem?_eq_getElem hk⟩
  have HGV : Hid (∀ W, Below w.heap.size w W → GV W) := fun W hW => hG.below hW
  obtain ⟨n, hn⟩ : ∃ n, n = ls.length := ⟨_, rfl⟩
  rw [← hn] at hl hcap HX ⊢
  have HN : Hid (n = ls.length) := hn
  have hni : ¬ (512 : Int) < n := by omega
  obtain ⟨ZI, hZI⟩ : ∃ ZI : List Value, ZI = iL iZ := ⟨_, rfl⟩
  have hzi : ∀ W, (zeroValue 41).run Tryz.prog W = .ok (.agg ZI.toArray) W := fun W => by rw [hZI]; exact ins_zero W
  have HII : Hid (∀ L : List Value, L.length = 5 → (Tryz.prog.info? 41).map (·.size) = some L.toArray.size) := fun L h => by rw [List.size_toArray, h]; exact ins_info iZ
  have HII2 : Hid (∀ L : List Value, L.length = 5 → (Tryz.prog.info? 41).map (·.size) = some L.length) := fun L h => by rw [h]; exact ins_info iZ
  have HZN : Hid (ZI.length = 5) := by rw [hZI]; rfl
  have HZ1 : Hid (ZI.toArray.all (·.oneCell') = true) := by show _ = _; rw [hZI]; exact iL_one _
  have HZA : Hid _ := hZI
  have HB0 : Hid (BT w.heap.size w.heap.size [] (w.alloc (.cells #[.pointer none, .slice none 0 0] 68 (0, 0)))) := BT.new w
  have HL0 : Hid (Below w.heap.size w (w.alloc (.cells #[.pointer none, .slice none 0 0] 68 (0, 0)))) := (Below.refl _ _).alloc (Nat.le_refl _) _
  clear hr hG hn hZI
  go_enter Tryz.func9, Tryz.ntmps9
  go_wp2
  go_loopw [16] (fun i wr => ∃ (k : Nat) (t : List (List UInt8)), k ≤ n ∧ i = .int .i64 k ∧ lsW (ls.take k) = some t ∧ BT w.heap.size w.heap.size (lt_ t) wr ∧ Below w.heap.size w wr) (fun i _ => n - (intOf i).toNat)
  case atStart => exact ⟨0, [], by omega, rfl, rfl, HB0.out, HL0.out⟩
  case round =>
    obtain ⟨k, t, hk, rfl, hW, hT, hB⟩ := hrel
    have HW : Hid (lsW (ls.take k) = some t) := hW
    have HT : Hid (BT w.heap.size w.heap.size (lt_ t) wr) := hT
    have HB : Hid (Below w.heap.size w wr) := hB
    clear hW hT HB0 HL0
    by_cases hlt : k < n
    · obtain ⟨x, hx⟩ := HX.out k hlt
      obtain ⟨hu, b, o, rfl, hc⟩ := HR.out k x hx
      have hd : wr.cell? ⟨b, o + k, none⟩ = some (.int .u64 x) := (hB.cell (block_lt hc)).trans hc
      have hki : (k : Int) < n := by omega
      have HXX : Hid (ls[k]? = some x) := hx
      have hD := fun W => dec_any x hu.1 hu.2 W
      clear hc hB hx hu
      go_wp2_with fail
      refine Calls.mono (hD _) ?_
      rintro e X1 ⟨rfl, hb1⟩
      clear hD hd
      have HB1 : Hid _ := HB.out.trans (hb1.mono HB.out.size)
      have HT1 : Hid (BT w.heap.size w.heap.size (lt_ t) X1) := BT.below HT.out hb1
      clear hb1 HB HT
      have HQ : Hid ((X1.alloc (.cells ZI.toArray 41 (0, 0))).heap[X1.heap.size]? = some (.cells ZI.toArray 41 (0, 0))) := heap_alloc_new _ _
      cases hdx : dec x with
      | none =>
        have HE : Hid (lsRes ls = .tuple #[sV [], .int .i64 4]) := by show _ = _; unfold lsRes; rw [lsW_no ls x (List.mem_of_getElem? HXX.out) hdx]
        have hIR : insRes none = .tuple #[.agg (iL iZ).toArray, .int .i64 4] := rfl
        have HZ5 : Hid ((iL iZ).toArray = ZI.toArray) := by show _ = _; rw [HZA.out]
        rw [hIR, HZ5.out]
        clear hIR hdx HXX HT1 HW
        go_upto_region 8 with (refine wpList_strL rfl 41 _ _ rfl X1.heap.size ZI.toArray rfl rfl 41 ZI.toArray HQ.out (HII.out ZI HZN.out) rfl HZ1.out ?_; intro Y eZ; have eY : Hid _ := eZ; clear eZ)
        obtain ⟨pY, rY⟩ := put_row X1 ZI ZI 41
        rw [← eY.out] at pY rY
        have HBY : Hid (Below w.heap.size w Y) := HB1.out.trans (pY.mono HB1.out.size)
        clear eY pY rY HQ HB1
        go_wp2
        go_ret2
        exact ⟨by rw [HE.out]; rfl, HBY.out⟩
      | some i =>
        have hm := (dec_some hdx).1
        have HS : Hid (lsW (ls.take (k + 1)) = some (t ++ [txt i])) := by
          show _ = _
          have hk2 : k < ls.length := by have := HN.out; omega
          rw [List.take_succ_eq_append_getElem hk2]
          have e : ls[k] = x := by have := HXX.out; rw [List.getElem?_eq_getElem hk2] at this; exact Option.some.inj this
          rw [e]; exact lsW_snoc _ _ HW.out hdx
        have hwf : iwf i := by rw [← (dec_some hdx).2]; exact wi_wf x (HR.out k x HXX.out).1.1 (HR.out k x HXX.out).1.2
        have hTX := fun W (hW : GV W) => text_any i hwf W hW
        have hTR : txtRes i = .tuple #[sV (txt i), .int .i64 0] := by unfold txtRes; rw [hm]; rfl
        have hIR : insRes (some i) = .tuple #[.agg (iL i).toArray, .int .i64 0] := rfl
        rw [hIR]
        rw [hTR, show iV i = .agg (iL i).toArray from rfl] at hTX
        have HLN : Hid ((iL i).length = 5) := rfl
        have HL1 : Hid ((iL i).toArray.all (·.oneCell') = true) := iL_one i
        have htl := txt_len hm
        have htt : (lt_ t).length ≤ 61 * t.length := lt_len t (lsW_60 HW.out)
        have htn : t.length = k := by rw [lsW_len HW.out, List.length_take]; have := HN.out; omega
        have hws := fun W hb hB => ws_any w.heap.size w.heap.size (lt_ t) (txt i ++ [10]) W hb (by simp; omega) hB
        obtain ⟨TS, hTS⟩ : ∃ TS : ByteArray, TS = ⟨(txt i).toArray⟩ := ⟨_, rfl⟩
        have hq : ¬ 9223372036854775807 < TS.size + 1 := by rw [hTS]; simp [ByteArray.size]; omega
        have hap : TS ++ ⟨#[10]⟩ = ⟨(txt i ++ [10]).toArray⟩ := by rw [hTS]; exact bytes_app (txt i) [10]
        unfold sV at hTX hws
        rw [← hTS] at hTX
        rw [← hap] at hws
        clear hTS hap htl htt htn hwf hTR hIR hdx hm HXX HW
        generalize iL i = IL at *
        go_upto_region 8 with (refine wpList_strL rfl 41 _ _ rfl X1.heap.size IL.toArray rfl rfl 41 ZI.toArray HQ.out (HII.out IL HLN.out) (by simp [HZN.out, HLN.out]) HL1.out ?_; intro Y eZ; have eY : Hid _ := eZ; clear eZ)
        obtain ⟨pY, rY⟩ := put_row X1 ZI IL 41
        rw [← eY.out] at pY rY
        have HBY : Hid (Below w.heap.size w Y) := HB1.out.trans (pY.mono HB1.out.size)
        have HTY : Hid (BT w.heap.size w.heap.size (lt_ t) Y) := BT.below HT1.out pY
        have HRY : Hid _ := rY
        clear eY pY rY HQ HB1 HT1
        go_wp2_with (refine wpList_load_mid rfl 41 _ rfl X1.heap.size 0 rfl IL _ (rangeAt_row HRY.out) Tryz.underlying41 rfl (HII2.out IL HLN.out) ?_)
        refine Calls.mono (hTX _ (HGV.out _ HBY.out)) ?_
        rintro e X3 ⟨rfl, hb3⟩
        have HB3 : Hid _ := HBY.out.trans (hb3.mono HBY.out.size)
        have HT3 : Hid (BT w.heap.size w.heap.size (lt_ t) X3) := BT.below HTY.out hb3
        clear hb3 HBY HTY HRY hTX
        go_wp2_with fail
        refine Calls.mono (hws _ HT3.out HB3.out.size) ?_
        rintro e X4 ⟨rfl, hb4, hB4⟩
        have HB4 : Hid _ := HB3.out.trans hB4
        have HT4 : Hid (BT w.heap.size w.heap.size (lt_ (t ++ [txt i])) X4) := by show BT _ _ _ _; rw [lt_snoc]; exact hb4
        clear hb4 hB4 hws HB3 HT3
        go_wp2
        exact ⟨⟨k + 1, t ++ [txt i], by omega, by go_num, HS.out, HT4.out, HB4.out⟩, by first | (simp [intOf]; done) | (simp [intOf]; omega)⟩
    · have hke : k = n := by omega
      have hki : ¬ (k : Int) < n := by omega
      have HE : Hid (lsRes ls = .tuple #[sV (lt_ t), .int .i64 0]) := by
        show _ = _
        have := HW.out
        rw [hke, HN.out, List.take_length] at this
        unfold lsRes; rw [this]
      clear hB hke
      go_wp2_with fail
      refine Calls.mono (Tryz.Builder_String_any_f w.heap.size w.heap.size (lt_ t) _ HT.out HB.out.size) ?_
      rintro e X4 ⟨rfl, _, hB4⟩
      go_wp2
      go_ret2
      exact ⟨by rw [HE.out]; rfl, HB.out.trans hB4⟩
end Go.Proofs.YtkpjfhphohanlaaGreatDoor.JC
