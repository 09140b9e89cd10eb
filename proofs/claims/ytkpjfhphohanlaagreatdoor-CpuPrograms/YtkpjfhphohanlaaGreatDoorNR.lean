/- cpu: the document's Listing. -/
import Derived.Test.YtkpjfhphohanlaaGreatDoorNE
import Derived.Test.YtkpjfhphohanlaaGreatDoorLU
set_option linter.unusedVariables false
set_option linter.unusedSimpArgs false
namespace Go.Proofs.YtkpjfhphohanlaaGreatDoor.JC
open Go.RowKit
open Go.Proofs.YtkpjfhphohanlaaGreatDoor.EC (row_lt heap_at rangeAt_below rangeAt_row ret_bool ret_i64 beq_int)

/-- What both answer of words. -/
def lsQ (ls : List Int) : List UInt8 × Int := if 512 < ls.length then ([], 3) else match lsW ls with | some t => (lt_ t, 0) | none => ([], 4)
theorem lsQ_of (ls : List Int) (h : ls.length ≤ 512) : lsRes ls = .tuple #[sV (lsQ ls).1, .int .i64 (lsQ ls).2] := by
  unfold lsQ lsRes
  rw [if_neg (by omega)]
  cases lsW ls <;> rfl
theorem list_q (v : Value) (ls : List Int) (w : World) (hG : GV w) (h : HU w v ls) : Calls Tryz.prog 9 #[v] w fun e w' => e = .returned (.tuple #[sV (lsQ ls).1, .int .i64 (lsQ ls).2]) ∧ Below w.heap.size w w' := by
  by_cases hb : 512 < ls.length
  · refine (list_big v ls hb w h).mono fun e w' ⟨h1, h2⟩ => ⟨?_, by rw [h2]; exact Below.refl _ _⟩
    rw [h1]; unfold lsQ; rw [if_pos hb]
  · rw [← lsQ_of ls (by omega)]
    exact list_any v ls (by omega) w hG h
theorem bytes_size (l : List UInt8) : (⟨l.toArray⟩ : ByteArray).size = l.length := by simp [ByteArray.size]
set_option maxHeartbeats 1000000 in
set_option maxRecDepth 100000 in
theorem rlist_any (v : Value) (ls : List Int) (hl : ls.length ≤ 512) (w : World) (hG : GV w) (h : HU w v ls) : Calls Tryz.prog 10 #[v] w fun e w' => e = .returned (lsRes ls) ∧ Below w.heap.size w w' := by
  obtain ⟨p, cap, rfl, hcap, hr⟩ := h
  have HR : Hid (∀ i x, ls[i]? = some x → u64 x ∧ ∃ b o, p = some ⟨b, o, none⟩ ∧ w.cell? ⟨b, o + i, none⟩ = some (.int .u64 x)) := hr
  have HX : Hid (∀ k, k < ls.length → ∃ x, ls[k]? = some x) := fun k hk => ⟨ls[k], List.getElem?_eq_getElem hk⟩
  have HGV : Hid (∀ W, Below w.heap.size w W → GV W) := fun W hW => hG.below hW
  obtain ⟨n, hn⟩ : ∃ n, n = ls.length := ⟨_, rfl⟩
  rw [← hn] at hl hcap HX ⊢
  have HN : Hid (n = ls.length) := hn
  have hni : ¬ (512 : Int) < n := by omega
  obtain ⟨ZI, hZI⟩ : ∃ ZI : List Value, ZI = iL iZ := ⟨_, rfl⟩
  have hzi : ∀ W, (zeroValue 41).run Tryz.prog W = .ok (.agg ZI.toArray) W := fun W => by rw [hZI]; exact ins_zero W
  have HII : Hid (∀ L : List Value, L.length = 5 → (Tryz.prog.info? 41).map (·.size) = some L.toArray.size) := fun L h => by rw [List.size_toArray, h]; exact ins_info iZ
  have HII2 : Hid (∀ L : List Value, L.length = 5 → (Tryz.prog.info? 41).map (·.size) = some L.length) := fun L h => by rw [h]; exact ins_info iZ
  have HZN : Hid (ZI.length = 5) := by rw [hZI]; rfl
  have HZ1 : Hid (ZI.toArray.all (·.oneCell') = true) := by show _ = _; rw [hZI]; exact iL_one _
  have HZA : Hid _ := hZI
  clear hr hG hn hZI
  go_enter Tryz.func10, Tryz.ntmps10
  go_wp2
  go_loopw [4, 5] (fun sv i wr => ∃ (k : Nat) (t : List (List UInt8)), k ≤ n ∧ sv = .string ⟨(lt_ t).toArray⟩ ∧ i = .int .i64 k ∧ lsW (ls.take k) = some t ∧ Below w.heap.size w wr) (fun _ i _ => n - (intOf i).toNat)
  case atStart => exact ⟨0, [], by omega, rfl, rfl, rfl, Below.refl _ _⟩
  case round =>
    obtain ⟨k, t, hk, rfl, rfl, hW, hB⟩ := hrel
    have HW : Hid (lsW (ls.take k) = some t) := hW
    have HB : Hid (Below w.heap.size w wr) := hB
    clear hW
    by_cases hlt : k < n
    · obtain ⟨x, hx⟩ := HX.out k hlt
      obtain ⟨hu, b, o, rfl, hc⟩ := HR.out k x hx
      have hd : wr.cell? ⟨b, o + k, none⟩ = some (.int .u64 x) := (hB.cell (block_lt hc)).trans hc
      have hki : (k : Int) < n := by omega
      have HXX : Hid (ls[k]? = some x) := hx
      have hD := fun W => rdec_any x hu.1 hu.2 W
      clear hc hB hx hu
      go_wp2_with fail
      refine Calls.mono (hD _) ?_
      rintro e X1 ⟨rfl, hb1⟩
      clear hD hd
      have HB1 : Hid _ := HB.out.trans (hb1.mono HB.out.size)
      clear hb1 HB
      have HQ : Hid ((X1.alloc (.cells ZI.toArray 41 (0, 0))).heap[X1.heap.size]? = some (.cells ZI.toArray 41 (0, 0))) := heap_alloc_new _ _
      cases hdx : dec x with
      | none =>
        have HE : Hid (lsRes ls = .tuple #[sV [], .int .i64 4]) := by show _ = _; unfold lsRes; rw [lsW_no ls x (List.mem_of_getElem? HXX.out) hdx]
        have hIR : rdRes none = .tuple #[.agg (iL iZ).toArray, .bool false] := rfl
        have HZ5 : Hid ((iL iZ).toArray = ZI.toArray) := by show _ = _; rw [HZA.out]
        rw [hIR, HZ5.out]
        clear hIR hdx HXX HW
        go_upto_region 8 with (refine wpList_strL rfl 41 _ _ rfl X1.heap.size ZI.toArray rfl rfl 41 ZI.toArray HQ.out (HII.out ZI HZN.out) rfl HZ1.out ?_; intro Y eZ; have eY : Hid _ := eZ; clear eZ)
        obtain ⟨pY, rY⟩ := put_row X1 ZI ZI 41
        rw [← eY.out] at pY rY
        have HBY : Hid (Below w.heap.size w Y) := HB1.out.trans (pY.mono HB1.out.size)
        clear eY pY rY HQ HB1
        go_wp2
        go_ret2
        exact ⟨by rw [HE.out]; rfl, HBY.out⟩
      | some i =>
        have hm := (dec_some hdx).1
        have HS : Hid (lsW (ls.take (k + 1)) = some (t ++ [txt i])) := by
          show _ = _
          have hk2 : k < ls.length := by have := HN.out; omega
          rw [List.take_succ_eq_append_getElem hk2]
          have e : ls[k] = x := by have := HXX.out; rw [List.getElem?_eq_getElem hk2] at this; exact Option.some.inj this
          rw [e]; exact lsW_snoc _ _ HW.out hdx
        have hTX := fun W (hW : GV W) => rtext_ok i hm W hW
        have hIR : rdRes (some i) = .tuple #[.agg (iL i).toArray, .bool true] := rfl
        rw [hIR]
        rw [show iV i = .agg (iL i).toArray from rfl] at hTX
        have HLN : Hid ((iL i).length = 5) := rfl
        have HL1 : Hid ((iL i).toArray.all (·.oneCell') = true) := iL_one i
        have htl := txt_len hm
        have htt : (lt_ t).length ≤ 61 * t.length := lt_len t (lsW_60 HW.out)
        have htn : t.length = k := by rw [lsW_len HW.out, List.length_take]; have := HN.out; omega
        obtain ⟨SS, hSS⟩ : ∃ SS : ByteArray, SS = ⟨(lt_ t).toArray⟩ := ⟨_, rfl⟩
        obtain ⟨TS, hTS⟩ : ∃ TS : ByteArray, TS = ⟨(txt i).toArray⟩ := ⟨_, rfl⟩
        have hq1 : ¬ 9223372036854775807 < SS.size + TS.size := by rw [hSS, hTS, bytes_size, bytes_size]; omega
        have eST : SS ++ TS = ⟨(lt_ t ++ txt i).toArray⟩ := by rw [hSS, hTS]; exact bytes_app _ _
        have hq2 : ¬ 9223372036854775807 < SS.size + TS.size + 1 := by rw [hSS, hTS, bytes_size, bytes_size]; omega
        have HAP : Hid (SS ++ TS ++ ⟨#[10]⟩ = ⟨(lt_ (t ++ [txt i])).toArray⟩) := by
          show _ = _
          rw [eST, lt_snoc]
          have := bytes_app (lt_ t ++ txt i) [10]
          rw [List.append_assoc] at this
          exact this
        clear eST
        unfold sV at hTX
        rw [← hTS] at hTX
        rw [← hSS]
        clear hTS hSS htl htt htn hIR hdx hm HXX HW
        generalize iL i = IL at *
        go_upto_region 8 with (refine wpList_strL rfl 41 _ _ rfl X1.heap.size IL.toArray rfl rfl 41 ZI.toArray HQ.out (HII.out IL HLN.out) (by simp [HZN.out, HLN.out]) HL1.out ?_; intro Y eZ; have eY : Hid _ := eZ; clear eZ)
        obtain ⟨pY, rY⟩ := put_row X1 ZI IL 41
        rw [← eY.out] at pY rY
        have HBY : Hid (Below w.heap.size w Y) := HB1.out.trans (pY.mono HB1.out.size)
        have HRY : Hid _ := rY
        clear eY pY rY HQ HB1
        go_wp2_with (refine wpList_load_mid rfl 41 _ rfl X1.heap.size 0 rfl IL _ (rangeAt_row HRY.out) Tryz.underlying41 rfl (HII2.out IL HLN.out) ?_)
        refine Calls.mono (hTX _ (HGV.out _ HBY.out)) ?_
        rintro e X3 ⟨rfl, hb3⟩
        have HB3 : Hid _ := HBY.out.trans (hb3.mono HBY.out.size)
        clear hb3 HBY HRY hTX
        go_wp2
        exact ⟨⟨k + 1, t ++ [txt i], by omega, by rw [← HAP.out], by go_num, HS.out, HB3.out⟩, by first | (simp [intOf]; done) | (simp [intOf]; omega)⟩
    · have hke : k = n := by omega
      have hki : ¬ (k : Int) < n := by omega
      have HE : Hid (lsRes ls = .tuple #[sV (lt_ t), .int .i64 0]) := by
        show _ = _
        have := HW.out
        rw [hke, HN.out, List.take_length] at this
        unfold lsRes; rw [this]
      clear hB hke
      go_wp2
      go_ret2
      exact ⟨by rw [HE.out]; rfl, HB.out⟩
set_option maxRecDepth 100000 in
theorem rlist_big (v : Value) (ls : List Int) (hl : 512 < ls.length) (w : World) (h : HU w v ls) : Calls Tryz.prog 10 #[v] w fun e w' => e = .returned (.tuple #[sV [], .int .i64 3]) ∧ w = w' := by
  obtain ⟨p, cap, rfl, hcap, hr⟩ := h
  have hi : (512 : Int) < ls.length := by omega
  clear hr
  go_enter Tryz.func10, Tryz.ntmps10
  go_wp2
  try rw [Exit.noGoto_ret]
  go_ret2
  exact ⟨rfl, rfl⟩
theorem rlist_q (v : Value) (ls : List Int) (w : World) (hG : GV w) (h : HU w v ls) : Calls Tryz.prog 10 #[v] w fun e w' => e = .returned (.tuple #[sV (lsQ ls).1, .int .i64 (lsQ ls).2]) ∧ Below w.heap.size w w' := by
  by_cases hb : 512 < ls.length
  · refine (rlist_big v ls hb w h).mono fun e w' ⟨h1, h2⟩ => ⟨?_, by rw [h2]; exact Below.refl _ _⟩
    rw [h1]; unfold lsQ; rw [if_pos hb]
  · rw [← lsQ_of ls (by omega)]
    exact rlist_any v ls (by omega) w hG h
end Go.Proofs.YtkpjfhphohanlaaGreatDoor.JC
