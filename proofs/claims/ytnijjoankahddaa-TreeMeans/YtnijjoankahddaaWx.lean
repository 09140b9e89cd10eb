/- Several texts in one. -/
import Derived.Test.YtnijjoankahddaaFD
set_option linter.unusedVariables false
set_option linter.unusedSimpArgs false
/- tree: the program's goUp, walked. -/
namespace Go.Proofs.Ytnijjoankahddaa.DC
open Go.RowKit

/-- A way's cells, as far as it is reckoned. -/
def wayC (ws : List (List UInt8)) : List Value := (ws.flatten ++ List.replicate (256 - 32 * ws.length) (0 : UInt8)).map B8
theorem wayC_len {ws : List (List UInt8)} (h : ∀ l ∈ ws, l.length = 32) (hk : ws.length ≤ 8) : (wayC ws).length = 256 := by
  unfold wayC
  rw [List.length_map, List.length_append, flat_len32 ws h, List.length_replicate]; omega
theorem wayC_one (ws : List (List UInt8)) : (wayC ws).toArray.all (·.oneCell') = true := R5.B8_onea _
theorem wayC_get {ws : List (List UInt8)} (h : ∀ l ∈ ws, l.length = 32) (k : Nat) (hk : k < ws.length) : ((wayC ws).drop (k * 32)).take 32 = (ws.getD k []).map B8 := by
  have hf := flat_len32 ws h
  unfold wayC
  rw [← List.map_drop, ← List.map_take, List.drop_append_of_le_length (by omega), List.take_append_of_le_length (by rw [List.length_drop]; omega), flat_part ws k h hk]
theorem wayC_put {ws : List (List UInt8)} (h : ∀ l ∈ ws, l.length = 32) (k : Nat) (hk : ws.length = k) (h8 : k < 8) (d : List UInt8) (hd : d.length = 32) : splice (wayC ws) (k * 32) (d.map B8) = wayC (ws ++ [d]) := by
  have hf := flat_len32 ws h
  unfold wayC
  rw [MC.splice_map]
  congr 1
  unfold splice
  rw [List.take_append_of_le_length (by omega), List.take_of_length_le (by omega), List.drop_append, List.drop_of_length_le (by omega), List.nil_append, List.drop_replicate, List.flatten_append, List.length_append, hf, hk, hd]
  simp
  omega
theorem getD_len {ws : List (List UInt8)} (h : ∀ l ∈ ws, l.length = 32) (k : Nat) (hk : k < ws.length) : (ws.getD k []).length = 32 := by
  rw [List.getD_eq_getElem?_getD, List.getElem?_eq_getElem hk]; exact h _ (List.getElem_mem _)
theorem upS_each {i : Bool} {D : List (List UInt8)} {L : Lg} {nb : Nat → List UInt8} {j : Nat} {leaf : List UInt8} (hA : gL D L) (hl : leaf.length = 32) (k : Nat) : ∀ l ∈ (upS i D nb j leaf L k).1, l.length = 32 := by
  induction k with
  | zero => intro l h; rw [List.mem_singleton.1 h]; exact hl
  | succ k ih =>
    rw [upS_succ]
    intro l h
    rcases List.mem_append.1 h with h | h
    · exact ih l h
    · rw [List.mem_singleton.1 h]; exact (upS_good hA k).len _
theorem info256 (L : List Value) (h : L.length = 256) : (Try.prog.info? 79).map (·.size) = some L.length := by rw [h]; kernel_rfl
theorem info256a (L : List Value) (h : L.length = 256) : (Try.prog.info? 79).map (·.size) = some L.toArray.size := by rw [List.size_toArray, h]; kernel_rfl
theorem zero_way (W : World) : (zeroValue 79).run Try.prog W = .ok (.agg ((List.replicate 256 (0 : UInt8)).map B8).toArray) W := by kernel_rfl
set_option maxHeartbeats 4000000 in
set_option maxRecDepth 100000 in
theorem build_way (W : World) (DL : List Value) (h2 : DL.length = 32) : (Instr.build 79 #[(0, .agg DL.toArray)]).run Try.prog W = .ok (.agg (DL ++ (List.replicate 224 (0 : UInt8)).map B8).toArray) W := by
  iterate 32 (obtain ⟨_, _, e, g⟩ := R5.cons_of h2; clear h2; subst e; have h2 := g; clear g)
  obtain rfl := List.eq_nil_of_length_eq_zero h2
  show _ = _
  kernel_rfl
section
variable {w X Y : World} {og mb rg mm gb rm bb n : Nat} {i : Bool} {m : List UInt8} {D : List (List UInt8)} {L L' R R' : Lg} {rows rows' : Rws} {l1 l2 l' A : List UInt8}
set_option maxHeartbeats 4000000 in
set_option maxRecDepth 100000 in
theorem TM.goUp (h : TM w og mb rg i m D L R mm gb rm bb n l1 l2 rows X) (a p : Nat) (leaf : List UInt8) (hA : gL D L) (hw : witB n a = true) (hp : p < 128) (hl : leaf.length = 32) (hll : L.length < 900000) :
    Calls Try.prog 37 #[.pointer (some ⟨og, 0, none⟩), .pointer (some ⟨mm, 0, none⟩), .int .u64 (a : Int), .int .i64 (p : Int), .agg (leaf.map B8).toArray] X fun e Y => e = .returned (.agg (wayC (upS i D (nodeB l1 a) (128 + p) leaf L 7).1).toArray) ∧ TM w og mb rg i m D (upS i D (nodeB l1 a) (128 + p) leaf L 7).2 R mm gb rm bb n l1 l2 rows Y := by
  have hz := fun W => zero_way W
  obtain ⟨ZW, hZW⟩ : ∃ L, L = (List.replicate 256 (0 : UInt8)).map B8 := ⟨_, rfl⟩
  rw [← hZW] at hz
  have HZW : Hid (ZW.length = 256) := by show _ = _; rw [hZW]; simp
  have HZ1 : Hid (ZW.toArray.all (·.oneCell') = true) := by show _ = _; rw [hZW]; exact R5.B8_onea _
  have HLF : Hid (∀ W, Calls Try.prog 31 #[.int .i64 (p : Int)] W fun e w' => e = .returned (.int .i64 ((128 + p : Nat) : Int)) ∧ w' = W) := fun W => leafOf_any p hp W
  obtain ⟨WS, hWS⟩ : ∃ f : Nat → List (List UInt8), f = fun k => (upS i D (nodeB l1 a) (128 + p) leaf L k).1 := ⟨_, rfl⟩
  obtain ⟨LS, hLS⟩ : ∃ f : Nat → Lg, f = fun k => (upS i D (nodeB l1 a) (128 + p) leaf L k).2 := ⟨_, rfl⟩
  obtain ⟨U, hU⟩ : ∃ f : Nat → Nat, f = fun k => (128 + p) / 2 ^ k := ⟨_, rfl⟩
  have hW7 : (upS i D (nodeB l1 a) (128 + p) leaf L 7).1 = WS 7 := by rw [hWS]
  have hL7 : (upS i D (nodeB l1 a) (128 + p) leaf L 7).2 = LS 7 := by rw [hLS]
  have HWE : Hid (∀ k, ∀ l ∈ WS k, l.length = 32) := by rw [hWS]; exact fun k => upS_each hA hl k
  have HWN : Hid (∀ k, (WS k).length = k + 1) := by rw [hWS]; exact fun k => upS_len k
  have HU0 : Hid (((128 + p : Nat) : Int) = (U 0 : Int)) := by show _ = _; rw [hU]; simp
  have HW0 : Hid (leaf.map B8 ++ (List.replicate 224 (0 : UInt8)).map B8 = wayC (WS 0)) := by rw [hWS]; show _ = wayC [leaf]; unfold wayC; simp
  have HL0 : Hid (L = LS 0) := by show _ = _; rw [hLS]; rfl
  have HST : Hid (∀ k, k < 7 → ∀ rws W q2 q3 q4 q5 b2 b3 b4 b5, rws[q2]? = some (b2, 3, [.int .i64 (U k : Int)]) → rws[q3]? = some (b3, 26, [.int .u64 (a : Int)]) → rws[q4]? = some (b4, 35, [.pointer (some ⟨mm, 0, none⟩)]) → rws[q5]? = some (b5, 34, [.pointer (some ⟨og, 0, none⟩)]) → q3 ≠ q2 → q4 ≠ q2 → q5 ≠ q2 → TM w og mb rg i m D (LS k) R mm gb rm bb n l1 l2 rws W →
      ∃ d, d.length = 32 ∧ WS (k + 1) = WS k ++ [d] ∧ Calls Try.prog 48 #[.agg (((WS k).getD k []).map B8).toArray, .pointer (some ⟨b4, 0, none⟩), .pointer (some ⟨b3, 0, none⟩), .pointer (some ⟨b2, 0, none⟩), .pointer (some ⟨b5, 0, none⟩)] W fun e Y => e = .returned (.agg (d.map B8).toArray) ∧ TM w og mb rg i m D (LS (k + 1)) R mm gb rm bb n l1 l2 (rws.set q2 (b2, 3, [.int .i64 (U (k + 1) : Int)])) Y) := by
    intro k hk rws W q2 q3 q4 q5 b2 b3 b4 b5 e2 e3 e4 e5 n3 n4 n5 hW
    have hlog : (LS k).length < 1000000 := by rw [hLS]; show (upS i D (nodeB l1 a) (128 + p) leaf L k).2.length < 1000000; have := upS_log (i := i) (D := D) (nb := nodeB l1 a) (j := 128 + p) (leaf := leaf) (L := L) k; omega
    have hg : ((WS k).getD k []).length = 32 := getD_len (HWE.out k) k (by rw [HWN.out]; omega)
    have q := hW.up1 a (U k) q2 q3 q4 q5 b2 b3 b4 b5 ((WS k).getD k []) e2 e3 e4 e5 n3 n4 n5 hw (by rw [hU]; exact way_bd p k hp) hg hlog
    have hq : askUp (U k) ((WS k).getD k []) (nodeB l1 a (bes (U k))) = upQ i D (nodeB l1 a) (128 + p) leaf L k := by rw [hU, hWS]; rfl
    have hh : U k / 2 = U (k + 1) := by rw [hU]; exact (up_half p k).symm
    rw [hq, hh] at q
    refine ⟨(nx2 i D (LS k) (upQ i D (nodeB l1 a) (128 + p) leaf L k)).1, by rw [hLS]; exact (upS_good hA k).len _, by rw [hWS, hLS]; rfl, ?_⟩
    have hl2 : (nx2 i D (LS k) (upQ i D (nodeB l1 a) (128 + p) leaf L k)).2 = LS (k + 1) := by rw [hLS]; rfl
    rw [hl2] at q
    exact q
  have HUB : Hid (∀ k, U k < 256) := by rw [hU]; exact fun k => way_bd p k hp
  have HBW : Hid (∀ W, (Instr.build 79 #[(0, .agg (leaf.map B8).toArray)]).run Try.prog W = .ok (.agg (wayC (WS 0)).toArray) W) := fun W => by rw [build_way W (leaf.map B8) (by simpa using hl), HW0.out]
  rw [hW7, hL7]
  rw [HL0.out] at h
  have HLN : Hid ((leaf.map B8).length = 32) := by show _ = _; simpa using hl
  obtain ⟨FL, hFL⟩ : ∃ L, leaf.map B8 = L := ⟨_, rfl⟩
  rw [hFL] at HBW HLN ⊢
  have HLF2 : Hid _ := HLF.out
  clear hWS hLS hU hW7 hL7 hl hp hll hA HW0 HL0 hZW hw hFL HLF
  generalize ((128 + p : Nat) : Int) = LI at *
  have HT0 : Hid _ := ((((h.alloc X.heap.size rfl 34 [.pointer (some ⟨og, 0, none⟩)]).alloc (X.heap.size + 1) (by simp) 35 [.pointer (some ⟨mm, 0, none⟩)]).alloc (X.heap.size + 1 + 1) (by simp) 26 [.int .u64 (a : Int)]).alloc (X.heap.size + 1 + 1 + 1) (by simp) 23 FL).alloc (X.heap.size + 1 + 1 + 1 + 1) (by simp) 79 ZW
  clear h
  go_enter Try.func37, Try.ntmps37
  go_upto_region 1 with fail
  generalize hb0 : X.heap.size = b0 at *
  generalize hb1 : b0 + 1 = b1 at *
  generalize hb2 : b1 + 1 = b2 at *
  generalize hb3 : b2 + 1 = b3 at *
  generalize hb4 : b3 + 1 = b4 at *
  clear hb0 hb1 hb2 hb3 hb4
  generalize World.alloc _ _ = X0 at *
  go_wp2_with fail
  refine Calls.mono (HLF2 _) ?_
  rintro e Y0 ⟨rfl, hy⟩
  rw [hy, HU0.out]
  clear hy Y0
  have HT1 : Hid _ := HT0.out.alloc X0.heap.size rfl 3 [.int .i64 0]
  clear HT0 HLF2
  go_upto_region 3 with (refine wpList_stI rfl (.tmp 11) (.tmp 16) rfl X0.heap.size 0 (U 0 : Int) rfl rfl [.int .i64 0] 3 (HT1.out.at 0 rfl) (by simp) ?_; intro X1 e1; have HT2 : Hid _ := HT1.out.poke 0 rfl 0 (.int .i64 (U 0 : Int)) rfl; rw [← e1] at HT2; clear e1 HT1)
  generalize X0.heap.size = b5 at *
  have HT3 : Hid _ := HT2.out.alloc X1.heap.size rfl 79 ZW
  have HWL0 : Hid ((wayC (WS 0)).length = 256) := wayC_len (HWE.out 0) (by rw [HWN.out]; decide)
  have HW10 : Hid _ := wayC_one (WS 0)
  go_upto_region 4 with (first
    | (refine wpList_load_mid rfl 23 (.tmp 9) rfl b3 0 rfl FL _ (MC.rangeAt_row (HT2.out.at 2 rfl)) Try.underlying23 rfl (infoD FL HLN.out) ?_)
    | (refine R5.wpList_build rfl 79 #[(0, .tmp 18)] rfl #[(0, .agg FL.toArray)] (.agg (wayC (WS 0)).toArray) (by simp; first | done | rfl) (HBW.out _) ?_)
    | (refine MC.wpList_store_rowL rfl 79 (.tmp 13) (.tmp 19) rfl X1.heap.size (wayC (WS 0)).toArray rfl rfl 79 ZW.toArray (HT3.out.at 0 rfl) (info256a _ HWL0.out) (by simp [HWL0.out, HZW.out]) HW10.out ?_
       intro X2 e2
       have HT4 : Hid _ := HT3.out.put' 0 rfl (wayC (WS 0))
       rw [← e2] at HT4
       clear e2))
  clear HT2 HT3
  generalize X1.heap.size = b6 at *
  clear HWL0 HW10 HBW
  go_wp2
  go_loopw [20] (fun t wr => ∃ k : Nat, k ≤ 7 ∧ t = .int .i64 k ∧ TM w og mb rg i m D (LS k) R mm gb rm bb n l1 l2 ((b6, 79, wayC (WS k)) :: (b5, 3, [.int .i64 (U k : Int)]) :: (b4, 79, ZW) :: (b3, 23, FL) :: (b2, 26, [.int .u64 (a : Int)]) :: (b1, 35, [.pointer (some ⟨mm, 0, none⟩)]) :: (b0, 34, [.pointer (some ⟨og, 0, none⟩)]) :: rows) wr) (fun t _ => 7 - (intOf t).toNat)
  case atStart => exact ⟨0, by omega, rfl, HT4.out⟩
  case round =>
    obtain ⟨k, hk, rfl, hT⟩ := hrel
    clear HT4
    have HT : Hid _ := hT
    have HWL : Hid ((wayC (WS k)).length = 256) := wayC_len (HWE.out k) (by rw [HWN.out]; omega)
    by_cases hlt : k < 7
    · obtain ⟨d, hd, hws, hc⟩ := HST.out k hlt _ wr 1 4 5 6 b5 b2 b1 b0 rfl rfl rfl rfl (by decide) (by decide) (by decide) hT
      have HC : Hid _ := hc
      have hkI : (k : Int) < 7 := by omega
      have hr := MC.rangeAt_part (MC.rangeAt_row (hT.at 0 rfl)) (k * 32) 32
      rw [wayC_get (HWE.out k) k (by rw [HWN.out]; omega), Nat.zero_add] at hr
      have HRG : Hid (wr.rangeAt b6 (k * 32) (((WS k).getD k []).map B8)) := hr
      have HGL : Hid ((((WS k).getD k []).map B8).length = 32) := by show _ = _; rw [List.length_map]; exact getD_len (HWE.out k) k (by rw [HWN.out]; omega)
      have HDL : Hid ((d.map B8).length = 32) := by show _ = _; simpa using hd
      have HD1 : Hid _ := R5.B8_onea d
      have HSP : Hid (splice (wayC (WS k)) ((k + 1) * 32) (d.map B8) = wayC (WS (k + 1))) := by show _ = _; rw [hws]; exact wayC_put (HWE.out k) (k + 1) (HWN.out k) (by omega) d hd
      generalize d.map B8 = DL at *
      generalize ((WS k).getD k []).map B8 = GL at *
      clear hT hc hr hws hd
      go_wp2_with (refine wpList_load_mid rfl 23 (.tmp 27) rfl b6 (k * 32) rfl GL _ HRG.out Try.underlying23 rfl (infoD GL HGL.out) ?_)
      refine Calls.mono HC.out ?_
      rintro e W1 ⟨rfl, hT1⟩
      have HT1 : Hid (TM w og mb rg i m D (LS (k + 1)) R mm gb rm bb n l1 l2 ((b6, 79, wayC (WS k)) :: (b5, 3, [.int .i64 (U (k + 1) : Int)]) :: (b4, 79, ZW) :: (b3, 23, FL) :: (b2, 26, [.int .u64 (a : Int)]) :: (b1, 35, [.pointer (some ⟨mm, 0, none⟩)]) :: (b0, 34, [.pointer (some ⟨og, 0, none⟩)]) :: rows) W1) := hT1
      clear hT1 HC HT HRG
      have HFIT : Hid ((k + 1) * 32 + DL.toArray.size ≤ (wayC (WS k)).length) := by show _ ≤ _; rw [HWL.out, List.size_toArray, HDL.out]; omega
      go_wp2_with (refine wpList_store_segL rfl 23 (.tmp 30) (.tmp 29) rfl b6 ((k + 1) * 32) DL.toArray (wayC (WS k)) 79 rfl rfl (HT1.out.at 0 rfl) (infoDa DL HDL.out) HFIT.out HD1.out ?_
                   intro W2 e2
                   have HT2 : Hid _ := HT1.out.put' 0 rfl (splice (wayC (WS k)) ((k + 1) * 32) DL)
                   rw [List.toList_toArray] at e2
                   rw [← e2, HSP.out] at HT2
                   clear e2)
      go_roundw
      case rel => exact ⟨k + 1, by omega, by go_num, HT2.out⟩
      case measure => simp [intOf]; omega
    · have hk7 : k = 7 := by omega
      subst hk7
      have HW1 : Hid _ := wayC_one (WS 7)
      obtain ⟨WL, hWL⟩ : ∃ L, wayC (WS 7) = L := ⟨_, rfl⟩
      have HWLE : Hid (wayC (WS 7) = WL) := hWL
      have HT : Hid (TM w og mb rg i m D (LS 7) R mm gb rm bb n l1 l2 ((b6, 79, WL) :: (b5, 3, [.int .i64 (U 7 : Int)]) :: (b4, 79, ZW) :: (b3, 23, FL) :: (b2, 26, [.int .u64 (a : Int)]) :: (b1, 35, [.pointer (some ⟨mm, 0, none⟩)]) :: (b0, 34, [.pointer (some ⟨og, 0, none⟩)]) :: rows) wr) := by rw [hWL] at hT; exact hT
      rw [hWL] at HWL HW1
      clear hWL
      clear hT hlt hk HST
      go_wp2_with (first
        | (refine wpList_load_mid rfl 79 (.tmp 13) rfl b6 0 rfl WL _ (MC.rangeAt_row (HT.out.at 0 rfl)) Try.underlying79 rfl (info256 WL HWL.out) ?_)
        | (refine MC.wpList_store_rowL rfl 79 (.tmp 10) (.tmp 32) rfl b4 WL.toArray rfl rfl 79 ZW.toArray (HT.out.at 2 rfl) (info256a _ HWL.out) (by simp [HWL.out, HZW.out]) HW1.out ?_; intro W2 e2; subst e2))
      refine bodyPost_ret (v := .agg WL.toArray) ?_ rfl ⟨by rw [HWLE.out], (HT.out.put' 2 rfl WL).drop.drop.drop.drop.drop.drop.drop⟩
      exact results_cell_row Try.results37 _ _ b4 79 _ (0, 0) _ rfl (setRow_heap _ _ _ _ _ _ (HT.out.at 2 rfl)) Try.underlying79 rfl (info256a WL HWL.out)
end
end Go.Proofs.Ytnijjoankahddaa.DC

/- tree: the program's Up, Check, Set over both sides. -/
namespace Go.Proofs.Ytnijjoankahddaa.DC
open Go.RowKit

theorem witness_lt {n a : Nat} (hn : n ≤ 4096) (hw : witB n a = true) : a < 18446744073709551616 := by
  have := of_decide_eq_true hw
  omega
/-- May there be a way? -/
def wayOk (n a : Nat) (pg : Int) : Bool := witB n a && mayP pg
section
variable {w X Y : World} {og mb rg mm gb rm bb n : Nat} {i : Bool} {m : List UInt8} {D : List (List UInt8)} {L L' R R' : Lg} {rows rows' : Rws} {l1 l2 l' A : List UInt8}
theorem There.wf {og mb mm n : Nat} {W : World} (h : There og mb mm n W) (a : Nat) (ha : a < 18446744073709551616) (pg : Int) : Calls Try.prog 36 #[.pointer (some ⟨og, 0, none⟩), .pointer (some ⟨mm, 0, none⟩), .int .u64 (a : Int), .int .i64 pg] W fun e w' => e = .returned (.int .i64 (if wayOk n a pg = true then 0 else 2)) ∧ Below W.heap.size W w' := by
  have q := tf_any h a ha
  unfold wayOk
  cases hw : witB n a with
  | true =>
    rw [show tfC n a = 0 by unfold tfC; rw [hw]; rfl] at q
    rw [Bool.true_and]
    exact wf_ok _ _ _ pg W q
  | false =>
    rw [show tfC n a = 2 by unfold tfC; rw [hw]; rfl] at q
    exact wf_no _ _ _ pg 2 W (by decide) q
theorem TM.pup_no (h : TM w og mb rg i m D L R mm gb rm bb n l1 l2 rows X) (a : Nat) (ha : a < 18446744073709551616) (pg : Int) (LA : Array Value) (hw : wayOk n a pg = false) :
    Calls Try.prog 20 #[.pointer (some ⟨og, 0, none⟩), .pointer (some ⟨mm, 0, none⟩), .int .u64 (a : Int), .int .i64 pg, .agg LA] X fun e Y => e = .returned (R5.errV 2) ∧ TM w og mb rg i m D L R mm gb rm bb n l1 l2 rows Y :=
  (up_no _ _ _ _ 2 LA X (by decide) (fun W hW => by have q := (h.there.step hW).wf a ha pg; rw [hw] at q; exact q)).mono fun e Y ⟨h1, h2⟩ => ⟨h1, h.step h2⟩
theorem TM.pset_no (h : TM w og mb rg i m D L R mm gb rm bb n l1 l2 rows X) (a : Nat) (ha : a < 18446744073709551616) (pg : Int) (LA : Array Value) (hw : wayOk n a pg = false) :
    Calls Try.prog 14 #[.pointer (some ⟨og, 0, none⟩), .pointer (some ⟨mm, 0, none⟩), .int .u64 (a : Int), .int .i64 pg, .agg LA] X fun e Y => e = .returned (R5.errV 2) ∧ TM w og mb rg i m D L R mm gb rm bb n l1 l2 rows Y :=
  (set_no _ _ _ _ 2 LA X (by decide) (fun W hW => by have q := (h.there.step hW).wf a ha pg; rw [hw] at q; exact q)).mono fun e Y ⟨h1, h2⟩ => ⟨h1, h.step h2⟩
theorem TM.pcheck_no (h : TM w og mb rg i m D L R mm gb rm bb n l1 l2 rows X) (a : Nat) (ha : a < 18446744073709551616) (pg : Int) (RA LA : List Value) (hl : LA.length = 32) (hw : wayOk n a pg = false) :
    Calls Try.prog 15 #[.pointer (some ⟨og, 0, none⟩), .pointer (some ⟨mm, 0, none⟩), .int .u64 (a : Int), .agg RA.toArray, .int .i64 pg, .agg LA.toArray] X fun e Y => e = .returned (.tuple #[.bool false, .int .i64 2]) ∧ TM w og mb rg i m D L R mm gb rm bb n l1 l2 rows Y :=
  (check_no _ _ _ _ 2 RA LA X hl (by decide) (fun W hW => up_no _ _ _ _ 2 LA.toArray W (by decide) (fun W2 hW2 => by have q := (h.there.step (hW.trans (hW2.mono hW.size))).wf a ha pg; rw [hw] at q; exact q))).mono fun e Y ⟨h1, h2⟩ => ⟨h1, h.step h2⟩
set_option maxHeartbeats 4000000 in
set_option maxRecDepth 100000 in
theorem TM.pup (h : TM w og mb rg i m D L R mm gb rm bb n l1 l2 rows X) (a p : Nat) (leaf : List UInt8) (hA : gL D L) (hw : witB n a = true) (hp : p < 128) (hl : leaf.length = 32) (hll : L.length < 900000) :
    Calls Try.prog 20 #[.pointer (some ⟨og, 0, none⟩), .pointer (some ⟨mm, 0, none⟩), .int .u64 (a : Int), .int .i64 (p : Int), .agg (leaf.map B8).toArray] X fun e Y => e = .returned (R5.okV ((upS i D (nodeB l1 a) (128 + p) leaf L 7).1.getD 7 [])) ∧ TM w og mb rg i m D (upS i D (nodeB l1 a) (128 + p) leaf L 7).2 R mm gb rm bb n l1 l2 rows Y := by
  have hz := fun W => R5.zero_dig W
  obtain ⟨ZL, hZL⟩ : ∃ L, L = (List.replicate 32 (0 : UInt8)).map B8 := ⟨_, rfl⟩
  rw [← hZL] at hz
  have HZL : Hid (ZL.length = 32) := by show _ = _; rw [hZL]; simp
  clear hZL
  have hz2 := fun W => zero_way W
  obtain ⟨ZW, hZW⟩ : ∃ L, L = (List.replicate 256 (0 : UInt8)).map B8 := ⟨_, rfl⟩
  rw [← hZW] at hz2
  have HZW : Hid (ZW.length = 256) := by show _ = _; rw [hZW]; simp
  clear hZW
  have ha := witness_lt h.le hw
  have HWF : Hid (∀ rws W, TM w og mb rg i m D L R mm gb rm bb n l1 l2 rws W → Calls Try.prog 36 #[.pointer (some ⟨og, 0, none⟩), .pointer (some ⟨mm, 0, none⟩), .int .u64 (a : Int), .int .i64 (p : Int)] W fun e w' => e = .returned (.int .i64 0) ∧ Below W.heap.size W w') := fun rws W hW => by
    have q := hW.there.wf a ha (p : Int)
    rw [show wayOk n a (p : Int) = true by unfold wayOk; rw [hw, show mayP (p : Int) = true from decide_eq_true (by omega)]; rfl] at q
    exact q
  have hws := upS_each (i := i) (D := D) (L := L) (nb := nodeB l1 a) (j := 128 + p) hA hl 7
  have hwn := upS_len (i := i) (D := D) (L := L) (nb := nodeB l1 a) (j := 128 + p) (leaf := leaf) 7
  have hgo := fun rws W (hW : TM w og mb rg i m D L R mm gb rm bb n l1 l2 rws W) => hW.goUp a p leaf hA hw hp hl hll
  have HL0 : Hid ((leaf.map B8).length = 32) := by show _ = _; simpa using hl
  obtain ⟨WS, hWS⟩ : ∃ ws, (upS i D (nodeB l1 a) (128 + p) leaf L 7).1 = ws := ⟨_, rfl⟩
  obtain ⟨L2, hL2⟩ : ∃ l, (upS i D (nodeB l1 a) (128 + p) leaf L 7).2 = l := ⟨_, rfl⟩
  rw [hWS] at hws hwn
  simp only [hWS, hL2] at hgo
  try rw [hWS]
  rw [hL2]
  obtain ⟨FL, hFL⟩ : ∃ L, leaf.map B8 = L := ⟨_, rfl⟩
  rw [hFL] at HL0
  simp only [hFL] at hgo
  try rw [hFL]
  have HGO : Hid (∀ rws W, TM w og mb rg i m D L R mm gb rm bb n l1 l2 rws W → Calls Try.prog 37 #[.pointer (some ⟨og, 0, none⟩), .pointer (some ⟨mm, 0, none⟩), .int .u64 (a : Int), .int .i64 (p : Int), .agg FL.toArray] W fun e Y => e = .returned (.agg (wayC WS).toArray) ∧ TM w og mb rg i m D L2 R mm gb rm bb n l1 l2 rws Y) := hgo
  have HWL : Hid ((wayC WS).length = 256) := wayC_len hws (by omega)
  have HW1 : Hid _ := wayC_one WS
  have HWG : Hid (∀ k, k < 8 → ((wayC WS).drop (k * 32)).take 32 = (WS.getD k []).map B8) := fun k hk => wayC_get hws k (by omega)
  have HGN : Hid (∀ k, k < 8 → (WS.getD k []).length = 32) := fun k hk => getD_len hws k (by omega)
  clear hgo hFL hws hwn hWS hL2
  obtain ⟨WL, hWL⟩ : ∃ L, wayC WS = L := ⟨_, rfl⟩
  rw [hWL] at HGO HWL HW1 HWG
  clear hWL
  have HOK : Hid (R5.okV (WS.getD 7 []) = .tuple #[.agg ((WS.getD 7 []).map B8).toArray, .int .i64 0]) := rfl
  have HG7 : Hid ((WL.drop (7 * 32)).take 32 = (WS.getD 7 []).map B8) := HWG.out 7 (by decide)
  have HN7 : Hid (((WS.getD 7 []).map B8).length = 32) := by show _ = _; rw [List.length_map]; exact HGN.out 7 (by decide)
  have HO7 : Hid _ := R5.B8_onea (WS.getD 7 [])
  rw [HOK.out]
  generalize (WS.getD 7 []).map B8 = GL at *
  have HT0 : Hid _ := (h.alloc X.heap.size rfl 23 FL).alloc (X.heap.size + 1) (by simp) 23 ZL
  clear h hw hp hl hll hA ha HOK HGN HWG
  go_enter Try.func20, Try.ntmps20
  go_upto_region 1 with fail
  generalize hb9 : X.heap.size = b9 at *
  generalize hb10 : b9 + 1 = b10 at *
  clear hb9 hb10
  generalize World.alloc _ _ = X0 at *
  go_wp2_with fail
  refine Calls.mono (HWF.out _ _ HT0.out) ?_
  rintro e X1 ⟨rfl, hb⟩
  have HT1 : Hid _ := HT0.out.step hb
  clear hb HT0 HWF
  go_wp2_with (refine wpList_load_mid rfl 23 (.tmp 9) rfl b9 0 rfl FL _ (MC.rangeAt_row (HT1.out.at 1 rfl)) Try.underlying23 rfl (infoD FL HL0.out) ?_)
  refine Calls.mono (HGO.out _ _ HT1.out) ?_
  rintro e X2 ⟨rfl, hT2⟩
  have HT3 : Hid _ := hT2.alloc X2.heap.size rfl 79 ZW
  clear hT2 HT1 HGO
  go_upto_region 5 with (refine MC.wpList_store_rowL rfl 79 (.tmp 13) (.tmp 28) rfl X2.heap.size WL.toArray rfl rfl 79 ZW.toArray (HT3.out.at 0 rfl) (info256a _ HWL.out) (by simp [HWL.out, HZW.out]) HW1.out ?_; intro X3 e3; have HT4 : Hid _ := HT3.out.put' 0 rfl WL; rw [← e3] at HT4; clear e3)
  clear HT3
  generalize X2.heap.size = b13 at *
  have hr := MC.rangeAt_part (MC.rangeAt_row (HT4.out.at 0 rfl)) (7 * 32) 32
  rw [HG7.out, Nat.zero_add] at hr
  have HRG : Hid (X3.rangeAt b13 224 GL) := hr
  clear hr
  go_wp2_with (first
    | (refine wpList_load_mid rfl 23 (.tmp 29) rfl b13 224 rfl GL _ HRG.out Try.underlying23 rfl (infoD GL HN7.out) ?_)
    | (refine wpList_store_dL rfl (.tmp 10) (.tmp 30) rfl b10 GL ZL rfl rfl (HT4.out.at 1 rfl) HN7.out HZL.out HO7.out ?_; intro X4 e4; subst e4))
  refine bodyPost_ret (v := .tuple #[.agg GL.toArray, .int .i64 0]) ?_ rfl ⟨rfl, (HT4.out.put' 1 rfl GL).drop.drop.drop⟩
  exact R5.results_dig2 Try.results20 _ _ b10 23 _ (0, 0) _ rfl rfl (setRow_heap _ _ _ _ _ _ (HT4.out.at 1 rfl)) (infoDa GL HN7.out)
set_option maxHeartbeats 4000000 in
set_option maxRecDepth 100000 in
theorem TM.pcheck (h : TM w og mb rg i m D L R mm gb rm bb n l1 l2 rows X) (a p : Nat) (root leaf : List UInt8) (hA : gL D L) (hw : witB n a = true) (hp : p < 128) (hr : root.length = 32) (hl : leaf.length = 32) (hll : L.length < 900000) :
    Calls Try.prog 15 #[.pointer (some ⟨og, 0, none⟩), .pointer (some ⟨mm, 0, none⟩), .int .u64 (a : Int), .agg (root.map B8).toArray, .int .i64 (p : Int), .agg (leaf.map B8).toArray] X fun e Y => e = .returned (.tuple #[.bool ((upS i D (nodeB l1 a) (128 + p) leaf L 7).1.getD 7 [] == root), .int .i64 0]) ∧ TM w og mb rg i m D (upS i D (nodeB l1 a) (128 + p) leaf L 7).2 R mm gb rm bb n l1 l2 rows Y := by
  have hz := fun W => R5.zero_dig W
  obtain ⟨ZL, hZL⟩ : ∃ L, L = (List.replicate 32 (0 : UInt8)).map B8 := ⟨_, rfl⟩
  rw [← hZL] at hz
  have HZL : Hid (ZL.length = 32) := by show _ = _; rw [hZL]; simp
  clear hZL
  have hws := upS_each (i := i) (D := D) (L := L) (nb := nodeB l1 a) (j := 128 + p) hA hl 7
  have hwn := upS_len (i := i) (D := D) (L := L) (nb := nodeB l1 a) (j := 128 + p) (leaf := leaf) 7
  have hup := fun rws W (hW : TM w og mb rg i m D L R mm gb rm bb n l1 l2 rws W) => hW.pup a p leaf hA hw hp hl hll
  have hg7 := getD_len hws 7 (by omega)
  generalize (upS i D (nodeB l1 a) (128 + p) leaf L 7).1.getD 7 [] = G at *
  generalize (upS i D (nodeB l1 a) (128 + p) leaf L 7).2 = L2 at *
  have HQ : Hid (∀ W, (Op.equalIn 10000 23 (.agg (G.map B8).toArray) (.agg (root.map B8).toArray)).run Try.prog W = .ok (G == root) W) := fun W => eq_dig W G root hg7 hr (G == root) rfl
  have HOK : R5.okV G = .tuple #[.agg (G.map B8).toArray, .int .i64 0] := rfl
  rw [HOK] at hup
  have HFL : Hid ((leaf.map B8).length = 32) := by show _ = _; simpa using hl
  have HRL : Hid ((root.map B8).length = 32) := by show _ = _; simpa using hr
  have HGL : Hid ((G.map B8).length = 32) := by show _ = _; simpa using hg7
  have HG1 : Hid _ := R5.B8_onea G
  generalize (G == root) = bo at *
  generalize leaf.map B8 = FL at *
  generalize root.map B8 = RL at *
  generalize G.map B8 = GL at *
  have HUP : Hid (∀ rws W, TM w og mb rg i m D L R mm gb rm bb n l1 l2 rws W → Calls Try.prog 20 #[.pointer (some ⟨og, 0, none⟩), .pointer (some ⟨mm, 0, none⟩), .int .u64 (a : Int), .int .i64 (p : Int), .agg FL.toArray] W fun e Y => e = .returned (.tuple #[.agg GL.toArray, .int .i64 0]) ∧ TM w og mb rg i m D L2 R mm gb rm bb n l1 l2 rws Y) := hup
  have HT0 : Hid _ := (h.alloc X.heap.size rfl 23 RL).alloc (X.heap.size + 1) (by simp) 23 FL
  clear h hw hp hl hll hA hr hws hwn hup hg7 HOK
  go_enter Try.func15, Try.ntmps15
  go_upto_region 1 with fail
  generalize hb9 : X.heap.size = b9 at *
  generalize hb11 : b9 + 1 = b11 at *
  clear hb9 hb11
  generalize World.alloc _ _ = X0 at *
  go_wp2_with (refine wpList_load_mid rfl 23 (.tmp 11) rfl b11 0 rfl FL _ (MC.rangeAt_row (HT0.out.at 0 rfl)) Try.underlying23 rfl (infoD FL HFL.out) ?_)
  refine Calls.mono (HUP.out _ _ HT0.out) ?_
  rintro e X2 ⟨rfl, hT2⟩
  have HT3 : Hid _ := hT2.alloc X2.heap.size rfl 23 ZL
  clear hT2 HT0 HUP
  go_upto_region 2 with (refine wpList_store_dL rfl (.tmp 14) (.tmp 23) rfl X2.heap.size GL ZL rfl rfl (HT3.out.at 0 rfl) HGL.out HZL.out HG1.out ?_; intro X3 e3; have HT4 : Hid _ := HT3.out.put' 0 rfl GL; rw [← e3] at HT4; clear e3)
  clear HT3
  generalize X2.heap.size = b14 at *
  have heq := HQ.out X3
  go_wp2_with (first
    | (refine R5.load_mid_g (by rfl) 23 (.tmp 14) rfl b14 0 rfl GL _ (MC.rangeAt_row (HT4.out.at 0 rfl)) Try.underlying23 rfl (infoD GL HGL.out) ?_)
    | (refine R5.load_mid_g (by rfl) 23 (.tmp 9) rfl b9 0 rfl RL _ (MC.rangeAt_row (HT4.out.at 2 rfl)) Try.underlying23 rfl (infoD RL HRL.out) ?_))
  go_ret2
  exact ⟨rfl, HT4.out.drop.drop.drop⟩
end
end Go.Proofs.Ytnijjoankahddaa.DC

/- tree: the program's Set over both sides. -/
namespace Go.Proofs.Ytnijjoankahddaa.DC
open Go.RowKit

section
variable {w X Y : World} {og mb rg mm gb rm bb n : Nat} {i : Bool} {m : List UInt8} {D : List (List UInt8)} {L L' R R' : Lg} {rows rows' : Rws} {l1 l2 l' A : List UInt8}
set_option maxHeartbeats 4000000 in
set_option maxRecDepth 100000 in
theorem TM.pset (h : TM w og mb rg i m D L R mm gb rm bb n l1 l2 rows X) (a p : Nat) (leaf : List UInt8) (hA : gL D L) (hw : witB n a = true) (hp : p < 128) (hl : leaf.length = 32) (hll : L.length < 900000) :
    Calls Try.prog 14 #[.pointer (some ⟨og, 0, none⟩), .pointer (some ⟨mm, 0, none⟩), .int .u64 (a : Int), .int .i64 (p : Int), .agg (leaf.map B8).toArray] X fun e Y => e = .returned (R5.okV ((upS i D (nodeB l1 a) (128 + p) leaf L 7).1.getD 7 [])) ∧ TM w og mb rg i m D (upS i D (nodeB l1 a) (128 + p) leaf L 7).2 R mm gb rm bb n (layS l1 a (128 + p) (upS i D (nodeB l1 a) (128 + p) leaf L 7).1 7) l2 rows Y := by
  have hz := fun W => R5.zero_dig W
  obtain ⟨ZL, hZL⟩ : ∃ L, L = (List.replicate 32 (0 : UInt8)).map B8 := ⟨_, rfl⟩
  rw [← hZL] at hz
  have HZL : Hid (ZL.length = 32) := by show _ = _; rw [hZL]; simp
  clear hZL
  have hz2 := fun W => zero_way W
  obtain ⟨ZW, hZW⟩ : ∃ L, L = (List.replicate 256 (0 : UInt8)).map B8 := ⟨_, rfl⟩
  rw [← hZW] at hz2
  have HZW : Hid (ZW.length = 256) := by show _ = _; rw [hZW]; simp
  clear hZW
  have ha := witness_lt h.le hw
  have HWF : Hid (∀ rws W, TM w og mb rg i m D L R mm gb rm bb n l1 l2 rws W → Calls Try.prog 36 #[.pointer (some ⟨og, 0, none⟩), .pointer (some ⟨mm, 0, none⟩), .int .u64 (a : Int), .int .i64 (p : Int)] W fun e w' => e = .returned (.int .i64 0) ∧ Below W.heap.size W w') := fun rws W hW => by
    have q := hW.there.wf a ha (p : Int)
    rw [show wayOk n a (p : Int) = true by unfold wayOk; rw [hw, show mayP (p : Int) = true from decide_eq_true (by omega)]; rfl] at q
    exact q
  have hws := upS_each (i := i) (D := D) (L := L) (nb := nodeB l1 a) (j := 128 + p) hA hl 7
  have hwn := upS_len (i := i) (D := D) (L := L) (nb := nodeB l1 a) (j := 128 + p) (leaf := leaf) 7
  have hgo := fun rws W (hW : TM w og mb rg i m D L R mm gb rm bb n l1 l2 rws W) => hW.goUp a p leaf hA hw hp hl hll
  have HL0 : Hid ((leaf.map B8).length = 32) := by show _ = _; simpa using hl
  obtain ⟨WS, hWS⟩ : ∃ ws, (upS i D (nodeB l1 a) (128 + p) leaf L 7).1 = ws := ⟨_, rfl⟩
  obtain ⟨L2, hL2⟩ : ∃ l, (upS i D (nodeB l1 a) (128 + p) leaf L 7).2 = l := ⟨_, rfl⟩
  rw [hWS] at hws hwn
  simp only [hWS, hL2] at hgo
  try rw [hWS]
  rw [hL2]
  obtain ⟨FL, hFL⟩ : ∃ L, leaf.map B8 = L := ⟨_, rfl⟩
  rw [hFL] at HL0
  simp only [hFL] at hgo
  try rw [hFL]
  have HGO : Hid (∀ rws W, TM w og mb rg i m D L R mm gb rm bb n l1 l2 rws W → Calls Try.prog 37 #[.pointer (some ⟨og, 0, none⟩), .pointer (some ⟨mm, 0, none⟩), .int .u64 (a : Int), .int .i64 (p : Int), .agg FL.toArray] W fun e Y => e = .returned (.agg (wayC WS).toArray) ∧ TM w og mb rg i m D L2 R mm gb rm bb n l1 l2 rws Y) := hgo
  have HWL : Hid ((wayC WS).length = 256) := wayC_len hws (by omega)
  have HW1 : Hid _ := wayC_one WS
  have HWG : Hid (∀ k, k < 8 → ((wayC WS).drop (k * 32)).take 32 = (WS.getD k []).map B8) := fun k hk => wayC_get hws k (by omega)
  have HGN : Hid (∀ k, k < 8 → (WS.getD k []).length = 32) := fun k hk => getD_len hws k (by omega)
  clear hgo hFL hws hwn hWS hL2
  obtain ⟨WL, hWL⟩ : ∃ L, wayC WS = L := ⟨_, rfl⟩
  rw [hWL] at HGO HWL HW1 HWG
  clear hWL
  have HOK : Hid (R5.okV (WS.getD 7 []) = .tuple #[.agg ((WS.getD 7 []).map B8).toArray, .int .i64 0]) := rfl
  have HG7 : Hid ((WL.drop (7 * 32)).take 32 = (WS.getD 7 []).map B8) := HWG.out 7 (by decide)
  have HN7 : Hid (((WS.getD 7 []).map B8).length = 32) := by show _ = _; rw [List.length_map]; exact HGN.out 7 (by decide)
  have HO7 : Hid _ := R5.B8_onea (WS.getD 7 [])
  rw [HOK.out]
  obtain ⟨GL, hGL⟩ : ∃ G, (WS.getD 7 []).map B8 = G := ⟨_, rfl⟩
  rw [hGL] at HG7 HN7 HO7 ⊢
  obtain ⟨MS, hMS⟩ : ∃ f : Nat → List UInt8, f = layS l1 a (128 + p) WS := ⟨_, rfl⟩
  obtain ⟨U, hU⟩ : ∃ f : Nat → Nat, f = fun k => (128 + p) / 2 ^ k := ⟨_, rfl⟩
  have HM0 : Hid (l1 = MS 0) := by show _ = _; rw [hMS]; rfl
  have HMS : Hid (∀ k, MS (k + 1) = splice (MS k) (a + 32 * U k) (WS.getD k [])) := by rw [hMS, hU]; exact fun k => rfl
  have HUB : Hid (∀ k, U k < 256) := by rw [hU]; exact fun k => way_bd p k hp
  have HSH : Hid (∀ k : Nat, ((128 + p : Nat) : Int) / 2 ^ k = (U k : Int)) := by rw [hU]; exact fun k => by rw [Int.natCast_ediv, Int.natCast_pow]; rfl
  have HLF : Hid (∀ W, Calls Try.prog 31 #[.int .i64 (p : Int)] W fun e w' => e = .returned (.int .i64 ((128 + p : Nat) : Int)) ∧ w' = W) := fun W => leafOf_any p hp W
  have hM7 : layS l1 a (128 + p) WS 7 = MS 7 := by rw [hMS]
  rw [hM7]
  have HW : Hid (witB n a = true) := hw
  have HT0 : Hid _ := (h.alloc X.heap.size rfl 23 FL).alloc (X.heap.size + 1) (by simp) 23 ZL
  clear h hw hp hl hll hA ha HOK hGL hMS hU hM7
  generalize ((128 + p : Nat) : Int) = LI at *
  go_enter Try.func14, Try.ntmps14
  go_upto_region 1 with fail
  generalize hb9 : X.heap.size = b9 at *
  generalize hb10 : b9 + 1 = b10 at *
  clear hb9 hb10
  generalize World.alloc _ _ = X0 at *
  go_wp2_with fail
  refine Calls.mono (HWF.out _ _ HT0.out) ?_
  rintro e X1 ⟨rfl, hb⟩
  have HT1 : Hid _ := HT0.out.step hb
  clear hb HT0 HWF
  go_wp2_with (refine wpList_load_mid rfl 23 (.tmp 9) rfl b9 0 rfl FL _ (MC.rangeAt_row (HT1.out.at 1 rfl)) Try.underlying23 rfl (infoD FL HL0.out) ?_)
  refine Calls.mono (HGO.out _ _ HT1.out) ?_
  rintro e X2 ⟨rfl, hT2⟩
  have HT3 : Hid _ := hT2.alloc X2.heap.size rfl 79 ZW
  clear hT2 HT1 HGO
  go_upto_region 5 with (refine MC.wpList_store_rowL rfl 79 (.tmp 13) (.tmp 29) rfl X2.heap.size WL.toArray rfl rfl 79 ZW.toArray (HT3.out.at 0 rfl) (info256a _ HWL.out) (by simp [HWL.out, HZW.out]) HW1.out ?_; intro X3 e3; have HT4 : Hid _ := HT3.out.put' 0 rfl WL; rw [← e3] at HT4; clear e3)
  clear HT3
  generalize X2.heap.size = b13 at *
  rw [HM0.out] at HT4
  clear HM0
  go_wp2
  go_loopw [30] (fun t wr => ∃ k : Nat, k ≤ 7 ∧ t = .int .i64 k ∧ TM w og mb rg i m D L2 R mm gb rm bb n (MS k) l2 ((b13, 79, WL) :: (b10, 23, ZL) :: (b9, 23, FL) :: rows) wr) (fun t _ => 7 - (intOf t).toNat)
  case atStart => exact ⟨0, by omega, rfl, HT4.out⟩
  case round =>
    obtain ⟨k, hk, rfl, hT⟩ := hrel
    clear HT4
    by_cases hlt : k < 7
    · have hkI : (k : Int) < 7 := by omega
      have HT : Hid _ := hT
      have HDL : Hid (((WS.getD k []).map B8).length = 32) := by show _ = _; rw [List.length_map]; exact HGN.out k (by omega)
      have HWK : Hid ((WL.drop (k * 32)).take 32 = (WS.getD k []).map B8) := HWG.out k (by omega)
      have HLY : Hid (∀ rws W, TM w og mb rg i m D L2 R mm gb rm bb n (MS k) l2 rws W → Calls Try.prog 33 #[.pointer (some ⟨mm, 0, none⟩), .int .u64 (a : Int), .int .i64 (U k : Int), .agg ((WS.getD k []).map B8).toArray] W fun e Y => e = .returned (.tuple #[]) ∧ TM w og mb rg i m D L2 R mm gb rm bb n (MS (k + 1)) l2 rws Y) := fun rws W hW => by rw [HMS.out k]; exact hW.lay a (U k) _ HW.out (HUB.out k) (HGN.out k (by omega))
      have hsh := HSH.out k
      generalize (WS.getD k []).map B8 = DL at *
      clear hT
      go_upto_region 8 with fail
      refine wp_region_held_drew (S := fun W => ∃ l, TM w og mb rg i m D L2 R mm gb rm bb n l l2 ((b13, 79, WL) :: (b10, 23, ZL) :: (b9, 23, FL) :: rows) W) (by kernel_rfl) ⟨_, HT.out.step (Below.refl _ _).drew⟩ (fun hHeld => ?_)
      have HT2 : Hid _ := HT.out.step (Below.refl _ _).drew
      clear HT
      generalize World.drew _ = V0 at *
      refine wpAnyH_take (i := 0) (oi := { dst := some 33, op := Go.Op.move (Go.Operand.tmp 1), type := 35, pos := _, after := #[], guard := none }) (v := .pointer (some ⟨mm, 0, none⟩)) rfl (by kernel_rfl) (by kernel_rfl) (by kernel_rfl) (fun _ _ _ h => h) (Or.inl ⟨by rfl, fun w' hw' => ?_⟩) hHeld ?_
      · first | (go_simp; done) | (go_simp; rfl)
      try simp only [Act.put, List.setIfInBounds_toArray, List.set_cons_zero, List.set_cons_succ]
      refine wpAnyH_take (i := 1) (oi := { dst := some 34, op := Go.Op.move (Go.Operand.tmp 2), type := 26, pos := _, after := #[], guard := none }) (v := .int .u64 (a : Int)) rfl (by kernel_rfl) (by kernel_rfl) (by kernel_rfl) (fun _ _ _ h => h) (Or.inl ⟨by rfl, fun w' hw' => ?_⟩) hHeld ?_
      · first | (go_simp; done) | (go_simp; rfl)
      try simp only [Act.put, List.setIfInBounds_toArray, List.set_cons_zero, List.set_cons_succ]
      refine wpAnyH_take (i := 2) (oi := { dst := some 35, op := Go.Op.move (Go.Operand.tmp 3), type := 3, pos := _, after := #[], guard := none }) (v := .int .i64 (p : Int)) rfl (by kernel_rfl) (by kernel_rfl) (by kernel_rfl) (fun _ _ _ h => h) (Or.inl ⟨by rfl, fun w' hw' => ?_⟩) hHeld ?_
      · first | (go_simp; done) | (go_simp; rfl)
      try simp only [Act.put, List.setIfInBounds_toArray, List.set_cons_zero, List.set_cons_succ]
      refine wpAnyH_take (i := 4) (oi := { dst := some 37, op := Go.Op.move (Go.Operand.tmp 14), type := 3, pos := _, after := #[], guard := none }) (v := .int .i64 (k : Int)) rfl (by kernel_rfl) (by kernel_rfl) (by kernel_rfl) (fun _ _ _ h => h) (Or.inl ⟨by rfl, fun w' hw' => ?_⟩) hHeld ?_
      · first | (go_simp; done) | (go_simp; rfl)
      try simp only [Act.put, List.setIfInBounds_toArray, List.set_cons_zero, List.set_cons_succ]
      refine wpAnyH_take (i := 6) (oi := { dst := some 39, op := Go.Op.move (Go.Operand.tmp 14), type := 3, pos := _, after := #[], guard := none }) (v := .int .i64 (k : Int)) rfl (by kernel_rfl) (by kernel_rfl) (by kernel_rfl) (fun _ _ _ h => h) (Or.inl ⟨by rfl, fun w' hw' => ?_⟩) hHeld ?_
      · first | (go_simp; done) | (go_simp; rfl)
      try simp only [Act.put, List.setIfInBounds_toArray, List.set_cons_zero, List.set_cons_succ]
      refine wpAnyH_take (i := 7) (oi := { dst := some 40, op := Go.Op.indexAddr 79 (Go.Operand.tmp 13) (Go.Operand.tmp 39), type := 0, pos := _, after := #[{ on := 6, ground := Go.Ground.data }], guard := none }) (v := .pointer (some ⟨b13, k * 32, none⟩)) rfl (by kernel_rfl) (by kernel_rfl) (by kernel_rfl) (fun _ _ _ h => h) (Or.inl ⟨by rfl, fun w' hw' => ?_⟩) hHeld ?_
      · have h8I : ¬ (8 : Int) ≤ (k : Int) := (by omega); first | (go_simp; done) | (go_simp; rfl)
      try simp only [Act.put, List.setIfInBounds_toArray, List.set_cons_zero, List.set_cons_succ]
      refine wpAnyH_take (i := 8) (oi := { dst := some 41, op := Go.Op.load 23 (Go.Operand.tmp 40), type := 23, pos := _, after := #[{ on := 7, ground := Go.Ground.data }], guard := none }) rfl (by kernel_rfl) (by kernel_rfl) (by kernel_rfl) (fun _ _ _ h => h) (yieldsIf_load_mid (by rfl) 23 (.tmp 40) rfl (b13) ((k * 32)) rfl (DL) _ (fun _ h => (by obtain ⟨_, q⟩ := h; have r := MC.rangeAt_part (MC.rangeAt_row (q.at 0 rfl)) (k * 32) 32; rw [HWK.out, Nat.zero_add] at r; exact r)) Try.underlying23 rfl (infoD DL HDL.out)) hHeld ?_
      try simp only [Act.put, List.setIfInBounds_toArray, List.set_cons_zero, List.set_cons_succ]
      refine wpAnyH_ready (rs := [3]) (by kernel_rfl) (by simp) ?_
      refine AllReadyH.cons (o := { dst := some 36, op := Go.Op.call { callee := Go.Callee.value (Go.Operand.func 31), args := #[Go.Operand.tmp 35], argTypes := #[3] }, type := 3, pos := _, after := #[{ on := 2, ground := Go.Ground.data }], guard := none }) rfl (fun K hK => ?_) AllReadyH.nil
      rw [if_pos (by rfl)]
      go_wp2_with fail
      refine Calls.mono (HLF.out V0) ?_
      rintro e Y0 ⟨rfl, hy⟩
      rw [hy]
      clear hy Y0
      refine hK.out _ _ hHeld (fun _ => ?_)
      clear hK K
      try simp only [Act.put, List.setIfInBounds_toArray, List.set_cons_zero, List.set_cons_succ]
      refine wpAnyH_take (i := 5) (oi := { dst := some 38, op := Go.Op.binOp Go.BinOp.shr 3 (Go.Operand.tmp 36) (Go.Operand.tmp 37) 3, type := 3, pos := _, after := #[{ on := 3, ground := Go.Ground.data }, { on := 4, ground := Go.Ground.data }], guard := none }) (v := .int .i64 (U k : Int)) rfl (by kernel_rfl) (by kernel_rfl) (by kernel_rfl) (fun _ _ _ h => h) (Or.inl ⟨by rfl, fun w' hw' => ?_⟩) hHeld ?_
      · first | (go_simp; done) | (go_simp; rfl)
      try simp only [Act.put, List.setIfInBounds_toArray, List.set_cons_zero, List.set_cons_succ]
      refine wpAnyH_ready (rs := [9]) (by kernel_rfl) (by simp) ?_
      refine AllReadyH.cons (o := { dst := some 42, op := Go.Op.call { callee := Go.Callee.value (Go.Operand.func 33), args := #[Go.Operand.tmp 33, Go.Operand.tmp 34, Go.Operand.tmp 38, Go.Operand.tmp 41], argTypes := #[35, 26, 3, 23] }, type := 0, pos := _, after := #[{ on := 0, ground := Go.Ground.data }, { on := 1, ground := Go.Ground.data }, { on := 5, ground := Go.Ground.data }, { on := 8, ground := Go.Ground.data }, { on := 3, ground := Go.Ground.chain }], guard := none }) rfl (fun K hK => ?_) AllReadyH.nil
      rw [if_pos (by rfl)]
      go_wp2_with fail
      refine Calls.mono (HLY.out _ _ HT2.out) ?_
      rintro e V1 ⟨rfl, hT3⟩
      have HT3 : Hid _ := hT3
      have hH3 : ∃ l, TM w og mb rg i m D L2 R mm gb rm bb n l l2 ((b13, 79, WL) :: (b10, 23, ZL) :: (b9, 23, FL) :: rows) V1 := ⟨_, hT3⟩
      clear hT3 hHeld HT2 HLY
      refine hK.out _ _ hH3 (fun _ => ?_)
      clear hK K
      try simp only [Act.put, List.setIfInBounds_toArray, List.set_cons_zero, List.set_cons_succ]
      refine wpAnyH_done (by kernel_rfl) ?_ _
      go_wp2
      go_roundw
      case rel => exact ⟨k + 1, by omega, by go_num, HT3.out⟩
      case measure => simp [intOf]; omega
    · have hk7 : k = 7 := by omega
      subst hk7
      have HT : Hid _ := hT
      have hr := MC.rangeAt_part (MC.rangeAt_row (hT.at 0 rfl)) (7 * 32) 32
      rw [HG7.out, Nat.zero_add] at hr
      have HRG : Hid (wr.rangeAt b13 224 GL) := hr
      clear hr hT hk hlt
      go_wp2_with (first
        | (refine wpList_load_mid rfl 23 (.tmp 44) rfl b13 224 rfl GL _ HRG.out Try.underlying23 rfl (infoD GL HN7.out) ?_)
        | (refine wpList_store_dL rfl (.tmp 10) (.tmp 45) rfl b10 GL ZL rfl rfl (HT.out.at 1 rfl) HN7.out HZL.out HO7.out ?_; intro X4 e4; subst e4))
      refine bodyPost_ret (v := .tuple #[.agg GL.toArray, .int .i64 0]) ?_ rfl ⟨rfl, (HT.out.put' 1 rfl GL).drop.drop.drop⟩
      exact R5.results_dig2 Try.results14 _ _ b10 23 _ (0, 0) _ rfl rfl (setRow_heap _ _ _ _ _ _ (HT.out.at 1 rfl)) (infoDa GL HN7.out)
end
end Go.Proofs.Ytnijjoankahddaa.DC
