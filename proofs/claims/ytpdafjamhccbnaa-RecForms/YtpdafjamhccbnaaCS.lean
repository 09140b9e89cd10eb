/- rec: contracts of wire.Word at a granule's words, of wordsOf and of InBytes. -/
import Derived.Test.YtpdafjamhccbnaaCO
set_option linter.unusedVariables false
set_option linter.unusedSimpArgs false
namespace Go.Proofs.Ytpdafjamhccbnaa.VC
open Go.RowKit

set_option maxHeartbeats 1000000 in
set_option maxRecDepth 100000 in
theorem word_at (b i : Nat) (G : List UInt8) (hG : G.length = 128) (hi : i < 16) (t : TypeId) (w : World) (h : w.heap[b]? = some (.cells (G.map B8).toArray t (0, 0))) :
    Calls Try.prog 25 #[.slice (some ⟨b, 0, none⟩) 128 128, .int .i64 (i : Int)] w fun e w' => e = .returned (.int .u64 (wo G i)) ∧ w = w' := by
  have hr := rangeAt_part (rangeAt_row h) (8 * i) 8
  rw [Nat.zero_add] at hr
  have hl8 : ((G.drop (8 * i)).take 8).length = 8 := by rw [List.length_take, List.length_drop]; omega
  have e1 : ((G.map B8).drop (8 * i)).take 8 = ((G.drop (8 * i)).take 8).map B8 := by rw [List.map_take, List.map_drop]
  rw [e1] at hr
  have hb := hb_range (cap := 128 - 8 * i) 8 hl8.symm (by omega) (by unfold maxLen; omega) hr
  have HN : Hid (Calls Try.prog 27 #[.slice (some ⟨b, 8 * i, none⟩) 8 (128 - 8 * i)] w fun e w' => e = .returned (.int .u64 (wo G i)) ∧ w = w') := number_any _ _ w (by omega) hb
  obtain ⟨E, hE⟩ : ∃ E, E = 8 * i := ⟨_, rfl⟩
  rw [← hE] at HN
  have hE1 : IntKind.i64.wrap ((i : Int) * 8) = (E : Int) := by rw [IntKind.wrap_i64]; omega
  have hE2 : (i : Int) * 8 = (E : Int) := by omega
  have hE3 : IntKind.i64.wrap ((E : Int) + 8) = (E : Int) + 8 := by rw [IntKind.wrap_i64]; omega
  have hi1 : ¬ ((16 : Int) < (i : Int)) := by omega
  have hi2 : decide ((16 : Int) < (i : Int)) = false := decide_eq_false hi1
  have hEb : (E : Int) ≤ 120 := by omega
  have hmin : ¬ ((128 : Int) < (E : Int) + 8) := by omega
  have hmin2 : (E : Int) + 8 ≤ 128 := by omega
  have hcap : E ≤ 128 := by omega
  have hs8 : E + 8 - E = 8 := by omega
  clear hr hb h hE e1 hl8 hG hi
  generalize wo G i = WV at *
  go_enter Try.func25, Try.ntmps25
  go_wp2_with fail
  refine Calls.mono HN.out ?_
  rintro e w1 ⟨rfl, rfl⟩
  go_wp2
  go_ret
  exact ⟨rfl, rfl⟩
theorem slice_all (W : World) (b : Nat) : (Instr.sliceAt 45 (.pointer (some ⟨b, 0, none⟩)) none none none).run Try.prog W = .ok (.slice (some ⟨b, 0, none⟩) 128 128) W := by
  have ha : Try.prog.arrayLen 45 = 128 := by kernel_rfl
  have hu : Try.prog.underlying 45 = some (.array (Try.prog.arrayLen 45) (Try.prog.elem 45)) := by kernel_rfl
  have he : Try.prog.elem 45 = 5 := by kernel_rfl
  rw [run_sliceAt_array_all W 45 _ hu, he, size_u8, ha]
  simp only [Result.andThen, slicedAt]
  rw [if_neg (by decide), add_none]
theorem slice04 (W : World) (b : Nat) : (Instr.sliceAt 70 (.pointer (some ⟨b, 0, none⟩)) none (some (.int .i64 4)) none).run Try.prog W = .ok (.slice (some ⟨b, 0, none⟩) 4 16) W := by
  have ha : Try.prog.arrayLen 70 = 16 := by kernel_rfl
  have hu : Try.prog.underlying 70 = some (.array (Try.prog.arrayLen 70) (Try.prog.elem 70)) := by kernel_rfl
  have he : Try.prog.elem 70 = 22 := by kernel_rfl
  rw [run_sliceAt_array_h W 70 _ hu .i64 4 (by omega) (by rw [ha]; omega), he, size_u64, ha]
  simp only [Result.andThen, slicedAt]
  rw [if_neg (by decide), add_none]
  simp
/-- Words, some of them done. -/
def wpart (T : List Int) (k : Nat) : List Int := T.take k ++ List.replicate (16 - k) 0
theorem wpart_len (T : List Int) (k : Nat) (hT : T.length = 16) (h : k ≤ 16) : (wpart T k).length = 16 := by unfold wpart; simp; omega
theorem wpart_set (T : List Int) (k : Nat) (hT : T.length = 16) (h : k < 16) : ((wpart T k).map U).set k (.int .u64 (T.getD k 0)) = (wpart T (k + 1)).map U := by
  have hk : k < T.length := by omega
  have e : (wpart T k).set k (T.getD k 0) = wpart T (k + 1) := by
    unfold wpart
    rw [List.set_append_right _ _ (by rw [List.length_take]; omega), List.length_take, Nat.min_eq_left (by omega), Nat.sub_self, show 16 - k = (16 - (k + 1)) + 1 by omega, List.replicate_succ, List.set_cons_zero, List.take_succ_eq_append_getElem hk, List.append_assoc]
    simp [List.getD, List.getElem?_eq_getElem hk]
  rw [show (Value.int .u64 (T.getD k 0)) = U (T.getD k 0) from rfl, ← List.map_set, e]
set_option maxHeartbeats 1000000 in
set_option maxRecDepth 100000 in
theorem wordsOf_any (G : List UInt8) (hG : G.length = 128) (w : World) : Calls Try.prog 23 #[.agg (G.map B8).toArray] w fun e w' => e = .returned (.agg ((ws G).map U).toArray) ∧ Below w.heap.size w w' := by
  have hz := zero_ws
  obtain ⟨ZL, hZL⟩ : ∃ L, L = Z16.map U := ⟨_, rfl⟩
  have HZN : Hid (ZL.length = 16) := by rw [hZL]; rfl
  rw [← hZL] at hz
  have HP0 : Hid ((wpart (ws G) 0).map U = ZL) := by show _ = _; rw [hZL]; rfl
  have HWT : Hid ((wpart (ws G) 16).map U = (ws G).map U) := by show _ = _; unfold wpart; rw [List.take_of_length_le (by rw [ws_len]; decide)]; simp
  have HST : Hid (∀ k, k < 16 → ((wpart (ws G) k).map U).set k (.int .u64 (wo G k)) = (wpart (ws G) (k + 1)).map U) := fun k hk => by rw [← ws_get G k hk]; exact wpart_set (ws G) k (ws_len G) hk
  have HPL : Hid (∀ k, k ≤ 16 → ((wpart (ws G) k).map U).length = 16) := fun k hk => by rw [List.length_map]; exact wpart_len (ws G) k (ws_len G) hk
  have HWD : Hid (∀ k : Nat, k < 16 → ∀ b t W, W.heap[b]? = some (.cells (G.map B8).toArray t (0, 0)) → Calls Try.prog 25 #[.slice (some ⟨b, 0, none⟩) 128 128, .int .i64 (k : Int)] W fun e w' => e = .returned (.int .u64 (wo G k)) ∧ W = w') := fun k hk b t W h => word_at b k G hG hk t W h
  have hsl := fun W => slice_all W w.heap.size
  have HR : Hid _ := (((RS.start w).alloc _ rfl 45 (G.map B8)).alloc (w.heap.size + 1) (by simp) 70 ZL).alloc (w.heap.size + 1 + 1) (by simp) 70 ZL
  have HQ1 : Hid _ := onea (U_one (ws G))
  have HQL : Hid (((ws G).map U).length = 16) := by show _ = _; rw [List.length_map]; exact ws_len G
  obtain ⟨PL, hPL⟩ : ∃ PL : Nat → List Value, PL = fun k => (wpart (ws G) k).map U := ⟨_, rfl⟩
  have hPk : ∀ k, (wpart (ws G) k).map U = PL k := fun k => by rw [hPL]
  rw [hPk] at HP0 HWT
  simp only [hPk] at HST HPL
  generalize (ws G).map U = QL at *
  generalize G.map B8 = GL at *
  clear hPL hPk hZL hG
  go_enter Try.func23, Try.ntmps23
  go_wp2
  go_loopw [5] (fun i wr => ∃ k : Nat, k ≤ 16 ∧ i = .int .i64 k ∧ RS w [(w.heap.size + 1 + 1, 70, PL k), (w.heap.size + 1, 70, ZL), (w.heap.size, 45, GL)] wr) (fun i _ => 16 - (intOf i).toNat)
  case atStart => exact ⟨0, by omega, rfl, by rw [HP0.out]; exact HR.out⟩
  case round =>
    obtain ⟨k, hk, rfl, hR⟩ := hrel
    have HR4 : Hid _ := hR
    by_cases hlt : k < 16
    · have HW : Hid _ := HWD.out k hlt w.heap.size _ wr (hR.at 2 rfl)
      have HS1 : Hid _ := HST.out k hlt
      have HL1 : Hid _ := HPL.out k hk
      have hkI : (k : Int) < 16 := by omega
      generalize wo G k = x at *
      clear hR
      go_wp2_with fail
      refine Calls.mono HW.out ?_
      rintro e w1 ⟨rfl, rfl⟩
      go_wp2_with (refine wpList_stU rfl (.tmp 12) (.tmp 11) rfl (w.heap.size + 1 + 1) k x rfl rfl (PL k) 70 (HR4.out.at 0 rfl) (by rw [HL1.out]; exact hlt) ?_
                   intro V5 hV5
                   have HR5 : Hid (RS w [(w.heap.size + 1 + 1, 70, PL (k + 1)), (w.heap.size + 1, 70, ZL), (w.heap.size, 45, GL)] V5) := by rw [hV5]; exact HR4.out.poke 0 rfl k _ HS1.out
                   clear hV5)
      go_roundw
      case rel => exact ⟨k + 1, by omega, by go_num, HR5.out⟩
      case measure => simp [intOf]; omega
    · have hk4 : k = 16 := by omega
      subst hk4
      rw [HWT.out] at HR4
      clear hR hlt hk
      go_wp2_with (first
        | (refine wpList_load_mid rfl 70 (.tmp 3) rfl (w.heap.size + 1 + 1) 0 rfl QL _ (rangeAt_row (HR4.out.at 0 rfl)) Try.underlying70 rfl (info16 QL HQL.out) ?_)
        | (refine wpList_store_row rfl 70 (.tmp 2) (.tmp 14) rfl (w.heap.size + 1) QL.toArray rfl rfl 70 ZL.toArray (HR4.out.at 1 rfl) (info16a QL HQL.out) (by simp [HZN.out, HQL.out]) HQ1.out ?_))
      have R7 := HR4.out.put 1 rfl QL
      refine bodyPost_ret (v := .agg QL.toArray) (results1 Try.results23 _ _ (w.heap.size + 1) (R7.at 1 rfl) Try.underlying70 rfl (info16 QL HQL.out) rfl) rfl ⟨rfl, R7.bel⟩
def Z12 : List Int := List.replicate 12 0
theorem in_len {ns : List Int} (h : ns.length = 4) : (ns ++ Z12).length = 16 := by simp [h, Z12]
theorem in_u {ns : List Int} (h : nok ns) : ∀ x ∈ ns ++ Z12, u64 x := by
  intro x hx
  rcases List.mem_append.1 hx with hx | hx
  · exact h.r x hx
  · have := List.eq_of_mem_replicate hx
    subst this; unfold u64; omega
theorem in_seg {ns : List Int} (h : ns.length = 4) : splice (Z16.map U) 0 (ns.map U) = (ns ++ Z12).map U := by
  obtain ⟨a, b, c, d, rfl⟩ := four h
  rfl
set_option maxHeartbeats 1000000 in
set_option maxRecDepth 100000 in
theorem inBytes_any (ns : List Int) (hn : nok ns) (w : World) : Calls Try.prog 13 #[.agg (ns.map U).toArray] w fun e w' => e = .returned (.agg ((gr (ns ++ Z12)).map B8).toArray) ∧ Below w.heap.size w w' := by
  have h4 := hn.len
  have hz := zero_gr
  have hzw := zero_ws
  have HSG : Hid _ := in_seg h4
  obtain ⟨ZL, hZL⟩ : ∃ L, L = Z128.map B8 := ⟨_, rfl⟩
  have HZN : Hid (ZL.length = 128) := by show _ = _; rw [hZL, List.length_map, z128_len]
  rw [← hZL] at hz
  obtain ⟨ZW, hZW⟩ : ∃ L, L = Z16.map U := ⟨_, rfl⟩
  have HZW : Hid (ZW.length = 16) := by rw [hZW]; rfl
  rw [← hZW] at hzw HSG
  have HGO : Hid (∀ W, Calls Try.prog 22 #[.agg ((ns ++ Z12).map U).toArray] W fun e w' => e = .returned (.agg ((gr (ns ++ Z12)).map B8).toArray) ∧ Below W.heap.size W w') := fun W => granuleOf_any (ns ++ Z12) (in_len h4) (in_u hn) W
  have HGL : Hid (((gr (ns ++ Z12)).map B8).length = 128) := by show _ = _; rw [List.length_map, gr_len, in_len h4]
  have HG1 : Hid _ := B8_onea (gr (ns ++ Z12))
  have HQL : Hid (((ns ++ Z12).map U).length = 16) := by show _ = _; rw [List.length_map]; exact in_len h4
  have HNL : Hid ((ns.map U).length = 4) := by show _ = _; simpa using h4
  have HN1 : Hid _ := U_one ns
  have HR : Hid _ := (((RS.start w).alloc _ rfl 31 (ns.map U)).alloc (w.heap.size + 1) (by simp) 45 ZL).alloc (w.heap.size + 1 + 1) (by simp) 70 ZW
  generalize (gr (ns ++ Z12)).map B8 = GL at *
  generalize (ns ++ Z12).map U = QL at *
  generalize ns.map U = NL at *
  clear hZL hZW h4 hn
  go_enter Try.func13, Try.ntmps13
  go_wp2_with fail
  refine wp_region_held_drew (S := fun X => ∃ Z : List Value, RS w [(w.heap.size + 1 + 1, 70, Z), (w.heap.size + 1, 45, ZL), (w.heap.size, 31, NL)] X) (by kernel_rfl) ⟨ZW, HR.out.step (below_drew _)⟩ (fun hHeld => ?_)
  have hs1 := fun W => slice04 W (w.heap.size + 1 + 1)
  have hs2 := fun W => slice44 W w.heap.size 0
  refine wpAnyH_take (i := 0) (oi := { dst := some 4, op := Go.Op.slice 70 (Go.Operand.tmp 3) none (some (Go.Operand.const (Go.Value.int Go.IntKind.i64 4))) none, type := 64, pos := _, after := #[], guard := none }) (v := .slice (some ⟨w.heap.size + 1 + 1, 0, none⟩) 4 16) rfl (by kernel_rfl) (by kernel_rfl) (by kernel_rfl) (fun _ _ _ h => h) (Or.inl ⟨by rfl, fun w' hw' => ?_⟩) hHeld ?_
  · first | (go_simp; done) | (go_simp; rfl)
  try simp only [Act.put, List.setIfInBounds_toArray, List.set_cons_zero, List.set_cons_succ]
  refine wpAnyH_take (i := 1) (oi := { dst := some 5, op := Go.Op.fieldAddr 31 (Go.Operand.tmp 1) 0, type := 0, pos := _, after := #[], guard := none }) (v := .pointer (some ⟨w.heap.size, 0, none⟩)) rfl (by kernel_rfl) (by kernel_rfl) (by kernel_rfl) (fun _ _ _ h => h) (Or.inl ⟨by rfl, fun w' hw' => ?_⟩) hHeld ?_
  · first | (go_simp; done) | (go_simp; rfl)
  try simp only [Act.put, List.setIfInBounds_toArray, List.set_cons_zero, List.set_cons_succ]
  refine wpAnyH_take (i := 2) (oi := { dst := some 6, op := Go.Op.slice 29 (Go.Operand.tmp 5) none none none, type := 64, pos := _, after := #[{ on := 1, ground := Go.Ground.data }], guard := none }) (v := .slice (some ⟨w.heap.size, 0, none⟩) 4 4) rfl (by kernel_rfl) (by kernel_rfl) (by kernel_rfl) (fun _ _ _ h => h) (Or.inl ⟨by rfl, fun w' hw' => ?_⟩) hHeld ?_
  · first | (go_simp; done) | (go_simp; rfl)
  try simp only [Act.put, List.setIfInBounds_toArray, List.set_cons_zero, List.set_cons_succ]
  refine wpAnyH_ready (rs := [3]) (by kernel_rfl) (by simp) ?_
  refine AllReadyH.cons (o := { dst := some 7, op := Go.Op.call { callee := Go.Callee.builtin Go.Builtin.copy, args := #[Go.Operand.tmp 4, Go.Operand.tmp 6], argTypes := #[64, 64] }, type := 3, pos := _, after := #[{ on := 0, ground := Go.Ground.data }, { on := 2, ground := Go.Ground.data }], guard := none }) rfl (fun K hK => ?_) AllReadyH.nil
  rw [if_pos (by rfl)]
  have R4 := HR.out.step (below_drew _)
  refine wp_copy_seg (.tmp 4) (.tmp 6) rfl (w.heap.size + 1 + 1) 0 4 16 (some ⟨w.heap.size, 0, none⟩) 4 4 rfl rfl ZW 70 (R4.at 0 rfl) NL (by rw [HNL.out]; rfl) (fun _ => ⟨_, rfl, fun j v hv => ?_⟩) (by rw [HNL.out, HZW.out]; decide) HN1.out ?_
  · rw [add_none]; exact rangeAt_row (R4.at 2 rfl) j v hv
  rw [HSG.out]
  have R5 := R4.put 0 rfl QL
  have HR6 : Hid _ := R5
  refine hK.out _ _ ⟨QL, R5⟩ (fun _ => ?_)
  clear hK K
  try simp only [Act.put, List.setIfInBounds_toArray, List.set_cons_zero, List.set_cons_succ]
  refine wpAnyH_done (by kernel_rfl) ?_ _
  clear R4 R5 hHeld hs1 hs2 HR
  generalize World.setRow _ (w.heap.size + 1 + 1) QL.toArray = V5 at *
  go_wp2_with (refine wpList_load_mid rfl 70 (.tmp 3) rfl (w.heap.size + 1 + 1) 0 rfl QL _ (rangeAt_row (HR6.out.at 0 rfl)) Try.underlying70 rfl (info16 QL HQL.out) ?_)
  refine Calls.mono (HGO.out _) ?_
  rintro e V7 ⟨rfl, b7⟩
  have HR7 : Hid _ := HR6.out.step b7
  clear b7
  go_wp2_with (refine wpList_store_row rfl 45 (.tmp 2) (.tmp 9) rfl (w.heap.size + 1) GL.toArray rfl rfl 45 ZL.toArray (HR7.out.at 1 rfl) (info128a GL HGL.out) (by simp [HZN.out, HGL.out]) HG1.out ?_)
  have R8 := HR7.out.put 1 rfl GL
  refine bodyPost_ret (v := .agg GL.toArray) (results1 Try.results13 _ _ (w.heap.size + 1) (R8.at 1 rfl) Try.underlying45 rfl (info128 GL HGL.out) rfl) rfl ⟨rfl, R8.bel⟩
end Go.Proofs.Ytpdafjamhccbnaa.VC
