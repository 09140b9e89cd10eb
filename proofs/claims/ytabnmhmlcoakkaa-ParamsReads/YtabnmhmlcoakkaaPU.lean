/- params: the reference's Rec. -/
import Derived.Test.YtabnmhmlcoakkaaPT
set_option linter.unusedVariables false
set_option linter.unusedSimpArgs false
namespace Go.Proofs.Ytabnmhmlcoakkaa.PC
open Go.RowKit

theorem build_k4 (n : Nat) (b : Bool) (w : World) : (Instr.build 38 #[(0, .int .u64 (n : Int)), (2, .bool b)]).run Try.prog w = .ok (.agg (rcL n Z8 b).toArray) w := by kernel_rfl
set_option maxHeartbeats 4000000 in
set_option maxRecDepth 100000 in
theorem rrec_any (G : List UInt8) (w : World) (hG : G.length = 128) :
    Calls Try.prog 21 #[.agg (G.map B8).toArray] w fun e w' => e = .returned (.tuple #[.agg (cRes G).toArray, .bool (isC G)]) ∧ Below w.heap.size w w' := by
  have hzr := fun W => zero_rc W
  obtain ⟨RZ, hRZ⟩ : ∃ L, L = rcL 0 Z8 false := ⟨_, rfl⟩
  rw [← hRZ] at hzr
  have HBR : Hid (∀ W, (Instr.build 38 #[]).run Try.prog W = .ok (.agg RZ.toArray) W) := fun W => by rw [hRZ]; exact build_rc W
  have hrzl : RZ.length = 10 := by rw [hRZ]; exact rcL_len _ _ _ z8_len
  have HRL : Hid _ := hrzl
  have HRZ : Hid _ := hRZ
  clear hRZ hrzl
  have hM := fun W => rmayC_any (gP G) (gS G) (gB G) W
  have hRB := fun W => rcb_any (gP G) (gS G) (gB G) W (gS_len G) (gP_lt G) (gS_lt G)
  have hbl := cbL_len (gP G) (gS G) (gB G) (gS_len G)
  have HC : Hid ((mayC (gP G) = false ∧ cRes G = RZ ∧ isC G = false) ∨ (mayC (gP G) = true ∧ (∀ W, (Op.equalIn 10000 28 (.agg ((cbL (gP G) (gS G) (gB G)).map B8).toArray) (.agg (G.map B8).toArray)).run Try.prog W = .ok false W) ∧ cRes G = RZ ∧ isC G = false) ∨ (mayC (gP G) = true ∧ (∀ W, (Op.equalIn 10000 28 (.agg ((cbL (gP G) (gS G) (gB G)).map B8).toArray) (.agg (G.map B8).toArray)).run Try.prog W = .ok true W) ∧ cRes G = rcL (gP G) (gS G) (gB G) ∧ isC G = true)) := by
    have hq := fun W b hb => eq_gr W (cbL (gP G) (gS G) (gB G)) G hbl hG b hb
    show _ ∨ _
    unfold cRes isC
    rw [HRZ.out]
    cases hm : mayC (gP G)
    · exact .inl ⟨rfl, by simp, by simp⟩
    · cases he : (cbL (gP G) (gS G) (gB G) == G)
      · exact .inr (.inl ⟨rfl, fun W => hq W false he, by simp, by simp⟩)
      · exact .inr (.inr ⟨rfl, fun W => hq W true he, by simp, by simp⟩)
  have hrl := cRes_len G
  have HO1 : Hid ((cRes G).toArray.all (·.oneCell') = true) := onea (cRes_one G)
  generalize cRes G = RL at *
  generalize isC G = ok at *
  generalize mayC (gP G) = mm at *
  generalize (cbL (gP G) (gS G) (gB G)).map B8 = TL at *
  have HLI : Hid _ := info10 RL hrl
  have HLA : Hid _ := info10a RL.toArray (by simpa using hrl)
  have HLS : Hid (RZ.toArray.size = RL.toArray.size) := by show _ = _; simp [HRL.out, hrl]
  have HGI : Hid ((Try.prog.info? 28).map (·.size) = some (G.map B8).length) := info128 _ (by simpa using hG)
  have HW : Hid _ := (QS0.start w 38 (G.map B8) RZ).below (Below.refl _ _).drew
  have hsg := fun X => slice_gr X w.heap.size
  have HBN : Hid (∀ W, (Instr.build 38 #[(0, .int .u64 (gP G : Int)), (2, .bool (gB G))]).run Try.prog W = .ok (.agg (rcL (gP G) Z8 (gB G)).toArray) W) := fun W => build_k4 (gP G) (gB G) W
  have HQN : Hid ((rcL (gP G) (gS G) (gB G)).length = 10) := rcL_len _ _ _ (gS_len G)
  have hq0l : (rcL (gP G) Z8 (gB G)).length = 10 := rcL_len _ _ _ z8_len
  have HZA : Hid _ := info10a (rcL (gP G) Z8 (gB G)).toArray (by simpa using hq0l)
  have HZS : Hid (RZ.toArray.size = (rcL (gP G) Z8 (gB G)).toArray.size) := by show _ = _; simp [HRL.out, hq0l]
  have HQ1 : Hid ((rcL (gP G) Z8 (gB G)).toArray.all (·.oneCell') = true) := onea (rcL_one _ _ _)
  have hxb : (((G.getD 80 0).toNat : Int) == 1) = gB G := by
    unfold gB
    by_cases hx : G.getD 80 0 = 1
    · rw [hx]; rfl
    · have : ¬ ((G.getD 80 0).toNat : Int) = 1 := fun h => hx (UInt8.toNat_inj.1 (by show _ = 1; omega))
      rw [beq_eq_false_iff_ne.2 this, beq_eq_false_iff_ne.2 hx]
  have HX80 : Hid ((G.map B8)[80]? = some (.int .u8 ((G.getD 80 0).toNat : Int))) := by
    have h8 : 80 < G.length := by omega
    show _ = _
    simp [B8, List.getD, List.getElem?_eq_getElem h8]
  have HWD : Hid (∀ X, X.rangeAt w.heap.size 0 (G.map B8) → Calls Try.prog 31 #[.slice (some ⟨w.heap.size, 0, none⟩) 128 128, .int .i64 1] X fun e w' => e = .returned (.int .u64 (gP G : Int)) ∧ X = w') := fun X hX => rword_any w.heap.size 1 1 G X rfl hG (by decide) hX
  have HG : Hid _ := hG
  clear hG hrl hbl hq0l
  generalize (G.getD 80 0).toNat = x80 at *
  go_enter Try.func21, Try.ntmps21
  go_wp2
  refine wp_region_held_drew (S := QS0 w 38 (G.map B8) RZ) (by kernel_rfl) HW.out (fun hHeld => ?_)
  generalize ((w.alloc (.cells (G.map B8).toArray 28 (0, 0))).alloc (.cells RZ.toArray 38 (0, 0))).drew = X at *
  clear HW
  refine wpAnyH_take (i := 0) (oi := { dst := some 6, op := Go.Op.slice 28 (Go.Operand.tmp 1) none none none, type := 56, pos := _, after := #[], guard := none }) (v := .slice (some ⟨w.heap.size, 0, none⟩) 128 128) rfl (by kernel_rfl) (by kernel_rfl) (by kernel_rfl) (fun _ _ _ h => h) (Or.inl ⟨by rfl, fun w' hw' => ?_⟩) hHeld ?_
  · first | (go_simp; done) | (go_simp; rfl)
  try simp only [Act.put, List.setIfInBounds_toArray, List.set_cons_zero, List.set_cons_succ]
  refine wpAnyH_take (i := 2) (oi := { dst := some 8, op := Go.Op.indexAddr 28 (Go.Operand.tmp 1) (Go.Operand.const (Go.Value.int Go.IntKind.i64 80)), type := 0, pos := _, after := #[], guard := none }) (v := .pointer (some ⟨w.heap.size, 80, none⟩)) rfl (by kernel_rfl) (by kernel_rfl) (by kernel_rfl) (fun _ _ _ h => h) (Or.inl ⟨by rfl, fun w' hw' => ?_⟩) hHeld ?_
  · first | (go_simp; done) | (go_simp; rfl)
  try simp only [Act.put, List.setIfInBounds_toArray, List.set_cons_zero, List.set_cons_succ]
  refine wpAnyH_take (i := 3) (oi := { dst := some 9, op := Go.Op.load 5 (Go.Operand.tmp 8), type := 5, pos := _, after := #[{ on := 2, ground := Go.Ground.data }], guard := none }) (v := .int .u8 (x80 : Int)) rfl (by kernel_rfl) (by kernel_rfl) (by kernel_rfl) (fun _ _ _ h => h) (Or.inl ⟨by rfl, fun w' hw' => ?_⟩) hHeld ?_
  · have hcc : w'.cell? ⟨w.heap.size, 80, none⟩ = some (.int .u8 (x80 : Int)) := by { rw [cell_of_row _ _ 80 _ _ _ hw'.gr, List.getElem?_toArray]; exact HX80.out }; first | (go_simp; done) | (go_simp; rfl)
  try simp only [Act.put, List.setIfInBounds_toArray, List.set_cons_zero, List.set_cons_succ]
  refine wpAnyH_take (i := 4) (oi := { dst := some 10, op := Go.Op.binOp Go.BinOp.eql 5 (Go.Operand.tmp 9) (Go.Operand.const (Go.Value.int Go.IntKind.u8 1)) 5, type := 4, pos := _, after := #[{ on := 3, ground := Go.Ground.data }], guard := none }) (v := .bool (gB G)) rfl (by kernel_rfl) (by kernel_rfl) (by kernel_rfl) (fun _ _ _ h => h) (Or.inl ⟨by rfl, fun w' hw' => ?_⟩) hHeld ?_
  · first | (go_simp; done) | (go_simp; rfl)
  try simp only [Act.put, List.setIfInBounds_toArray, List.set_cons_zero, List.set_cons_succ]
  have hHeldX := hHeld
  refine wpAnyH_ready (rs := [1, 6]) (by kernel_rfl) (by simp) ?_
  refine AllReadyH.cons (o := { dst := some 7, op := Go.Op.call { callee := Go.Callee.value (Go.Operand.func 31), args := #[Go.Operand.tmp 6, Go.Operand.const (Go.Value.int Go.IntKind.i64 1)], argTypes := #[56, 3] }, type := 24, pos := _, after := #[{ on := 0, ground := Go.Ground.data }], guard := none }) rfl (fun K hK => ?_) (AllReadyH.cons (o := { dst := some 4, op := Go.Op.alloc 38, type := 0, pos := _, after := #[], guard := none }) rfl (fun K hK => ?_) AllReadyH.nil)
  all_goals rw [if_pos (by rfl)]
  · go_wp2_with fail
    refine Calls.mono (HWD.out _ (rangeAt_row hHeld.gr)) ?_
    rintro e w2 ⟨rfl, hw2⟩
    subst hw2
    refine hK.out _ _ hHeld (fun _ => ?_)
    clear hK K
    try simp only [Act.put, List.setIfInBounds_toArray, List.set_cons_zero, List.set_cons_succ]
    refine wpAnyH_take (i := 5) (oi := { dst := some 11, op := Go.Op.build 38 #[(0, Go.Operand.tmp 7), (2, Go.Operand.tmp 10)], type := 38, pos := _, after := #[{ on := 1, ground := Go.Ground.data }, { on := 4, ground := Go.Ground.data }], guard := none }) (v := .agg (rcL (gP G) Z8 (gB G)).toArray) rfl (by kernel_rfl) (by kernel_rfl) (by kernel_rfl) (fun _ _ _ h => h) (Or.inl ⟨by rfl, fun w' hw' => ?_⟩) hHeld ?_
    · rw [exec_build _ _ 38 #[(0, .tmp 7), (2, .tmp 10)] #[(0, .int .u64 (gP G : Int)), (2, .bool (gB G))] _ _ rfl (by simp; first | done | rfl | exact ⟨rfl, rfl⟩) (HBN.out _)]
    try simp only [Act.put, List.setIfInBounds_toArray, List.set_cons_zero, List.set_cons_succ]
    refine wpAnyH_ready (rs := [6]) (by kernel_rfl) (by simp) ?_
    refine AllReadyH.cons (o := { dst := some 4, op := Go.Op.alloc 38, type := 0, pos := _, after := #[], guard := none }) rfl (fun K hK => ?_) AllReadyH.nil
    rw [if_pos (by rfl)]
    go_wp2_with fail
    have hHeld2 := hHeld.below ((Below.refl _ _).alloc (Nat.le_refl _) (.cells RZ.toArray 38 (0, 0)))
    refine hK.out _ _ hHeld2 (fun _ => ?_)
    clear hK K
    try simp only [Act.put, List.setIfInBounds_toArray, List.set_cons_zero, List.set_cons_succ]
    refine wpAnyH_ready (rs := [7]) (by kernel_rfl) (by simp) ?_
    refine AllReadyH.cons (o := { dst := none, op := Go.Op.store 38 (Go.Operand.tmp 4) (Go.Operand.tmp 11), type := 0, pos := _, after := #[{ on := 6, ground := Go.Ground.data }, { on := 5, ground := Go.Ground.data }, { on := 1, ground := Go.Ground.chain }, { on := 0, ground := Go.Ground.phase }, { on := 1, ground := Go.Ground.phase }, { on := 2, ground := Go.Ground.phase }, { on := 3, ground := Go.Ground.phase }, { on := 4, ground := Go.Ground.phase }, { on := 5, ground := Go.Ground.phase }, { on := 6, ground := Go.Ground.phase }], guard := none }) rfl (fun K hK => ?_) AllReadyH.nil
    rw [if_pos (by rfl)]
    refine wp_store_row 38 _ _ rfl X.heap.size (rcL (gP G) Z8 (gB G)).toArray rfl rfl 38 RZ.toArray (heap_alloc_new _ _) HZA.out HZS.out HQ1.out ?_
    have hw3 := hHeldX.new (rcL (gP G) Z8 (gB G))
    have hHeld3 := hHeldX.below (below_new X (.cells RZ.toArray 38 (0, 0)) (rcL (gP G) Z8 (gB G)).toArray)
    have HW3 : Hid _ := hw3
    generalize (X.alloc (.cells RZ.toArray 38 (0, 0))).setRow X.heap.size (rcL (gP G) Z8 (gB G)).toArray = w3 at *
    generalize X.heap.size = qb at *
    refine hK.out _ _ hHeld3 (fun _ => ?_)
    clear hK K
    try simp only [Act.put, List.setIfInBounds_toArray, List.set_cons_zero, List.set_cons_succ]
    refine wpAnyH_done (by kernel_rfl) ?_ _
    clear hHeld hHeldX hHeld2 hHeld3 hw3 HWD HBN HZA HZS HQ1 HX80 hxb
    go_wp2
    go_loopw [5] (fun i wr => ∃ k : Nat, k ≤ 8 ∧ i = .int .i64 k ∧ Hid (QS w 38 (G.map B8) RZ (rcL (gP G) (rk (gS G) k) (gB G)) qb wr)) (fun i _ => 8 - (intOf i).toNat)
    case atStart => exact ⟨0, by omega, rfl, by rw [rk_zero]; exact HW3.out⟩
    case round =>
      obtain ⟨k, hk, rfl, HK⟩ := hrel
      clear HW3
      generalize wr = W at *
      by_cases hlt : k < 8
      · have HWK : Hid _ := rword_any w.heap.size (2 + k) (2 + (k : Int)) G W (by omega) HG.out (by omega) (rangeAt_row HK.out.gr)
        rw [show 8 * (2 + k) = 16 + 8 * k by omega, ← gS_get G k hlt] at HWK
        have HST : Hid _ := rk_set (gS G) k (gS_len G) hlt
        have HRK : Hid _ := rk_len (gS G) k (gS_len G) hk
        have hq0 := cell_of_row _ _ (1 + k) _ _ _ HK.out.q
        rw [List.getElem?_toArray, rcL_r _ _ _ k (by rw [HRK.out]; exact hlt)] at hq0
        have hq1 := frozen_of_row _ _ (1 + k) _ _ HK.out.q
        have HW7 : Hid _ := HK.out.set (1 + k) (.int .u64 (((gS G).getD k 0 : Nat) : Int)) (rcL (gP G) (rk (gS G) (k + 1)) (gB G)) (by rw [rc_setr _ _ _ _ _ (by rw [HRK.out]; exact hlt), HST.out])
        have hk2 : IntKind.i64.wrap (2 + (k : Int)) = 2 + (k : Int) := by rw [IntKind.wrap_i64]; omega
        generalize (gS G).getD k 0 = x at *
        generalize (rk (gS G) k).getD k 0 = y at *
        clear HK
        go_wp2_with fail
        refine Calls.mono HWK.out ?_
        rintro e w7 ⟨rfl, rfl⟩
        clear HWK
        go_wp2
        go_roundw
        case rel => exact ⟨k + 1, by omega, by go_num, HW7.out⟩
        case measure => simp [intOf]; omega
      · have hk8 : k = 8 := by omega
        rw [hk8, rk_all _ (gS_len G)] at HK
        generalize rcL (gP G) (gS G) (gB G) = QL at *
        have HQI : Hid _ := info10 QL HQN.out
        have HW5 : Hid _ := HK.out.below (Below.refl _ _).drew
        generalize G.map B8 = GA at *
        clear hk8 HK
        go_wp2
        refine wp_region_held_drew (S := QS w 38 GA RZ QL qb) (by kernel_rfl) HW5.out (fun hHeld => ?_)
        refine wpAnyH_take (i := 0) (oi := { dst := some 23, op := Go.Op.load 38 (Go.Operand.tmp 4), type := 38, pos := _, after := #[], guard := none }) rfl (by kernel_rfl) (by kernel_rfl) (by kernel_rfl) (fun _ _ _ h => h) (yieldsIf_load_mid (by rfl) 38 (.tmp 4) rfl (qb) (0) rfl (QL) _ (fun _ h => rangeAt_row h.q) Try.underlying38 rfl HQI.out) hHeld ?_
        try simp only [Act.put, List.setIfInBounds_toArray, List.set_cons_zero, List.set_cons_succ]
        refine wpAnyH_ready (rs := [1]) (by kernel_rfl) (by simp) ?_
        refine AllReadyH.cons (o := { dst := some 24, op := Go.Op.call { callee := Go.Callee.value (Go.Operand.func 16), args := #[Go.Operand.tmp 23], argTypes := #[38] }, type := 4, pos := _, after := #[{ on := 0, ground := Go.Ground.data }], guard := none }) rfl (fun K hK => ?_) AllReadyH.nil
        rw [if_pos (by rfl)]
        go_wp2_with fail
        refine Calls.mono (hM _) ?_
        rintro e w5 ⟨rfl, hb5⟩
        have hHeld5 := hHeld.below hb5
        clear hb5 hHeld HW5
        refine hK.out _ _ hHeld5 (fun _ => ?_)
        clear hK K
        try simp only [Act.put, List.setIfInBounds_toArray, List.set_cons_zero, List.set_cons_succ]
        have hHeld := hHeld5
        rcases HC.out with ⟨he, hRL, hok⟩ | ⟨he, heq, hRL, hok⟩ | ⟨he, heq, hRL, hok⟩
        · subst he hok
          refine wpAnyH_take (i := 2) (oi := { dst := some 25, op := Go.Op.unOp Go.UnOp.not 4 (Go.Operand.tmp 24), type := 4, pos := _, after := #[{ on := 1, ground := Go.Ground.data }], guard := none }) (v := .bool true) rfl (by kernel_rfl) (by kernel_rfl) (by kernel_rfl) (fun _ _ _ h => h) (Or.inl ⟨by rfl, fun w' hw' => ?_⟩) hHeld ?_
          · first | (go_simp; done) | (go_simp; rfl)
          try simp only [Act.put, List.setIfInBounds_toArray, List.set_cons_zero, List.set_cons_succ]
          refine wpAnyH_take (i := 3) (oi := { dst := some 26, op := Go.Op.move (Go.Operand.tmp 25), type := 4, pos := _, after := #[{ on := 2, ground := Go.Ground.data }, { on := 1, ground := Go.Ground.chain }], guard := none }) (v := .bool true) rfl (by kernel_rfl) (by kernel_rfl) (by kernel_rfl) (fun _ _ _ h => h) (Or.inl ⟨by rfl, fun w' hw' => ?_⟩) hHeld ?_
          · first | (go_simp; done) | (go_simp; rfl)
          try simp only [Act.put, List.setIfInBounds_toArray, List.set_cons_zero, List.set_cons_succ]
          refine wpAnyH_take (i := 4) (oi := { dst := some 27, op := Go.Op.load 38 (Go.Operand.tmp 4), type := 38, pos := _, after := #[{ on := 3, ground := Go.Ground.guard }], guard := some (3, false) }) (v := undef) rfl (by kernel_rfl) (by kernel_rfl) (by kernel_rfl) (fun _ _ _ h => h) (Or.inr ⟨by rfl, rfl⟩) hHeld ?_
          try simp only [Act.put, List.setIfInBounds_toArray, List.set_cons_zero, List.set_cons_succ]
          refine wpAnyH_take (i := 5) (oi := { dst := some 28, op := Go.Op.call { callee := Go.Callee.value (Go.Operand.func 17), args := #[Go.Operand.tmp 27], argTypes := #[38] }, type := 28, pos := _, after := #[{ on := 4, ground := Go.Ground.data }, { on := 3, ground := Go.Ground.chain }, { on := 3, ground := Go.Ground.guard }], guard := some (3, false) }) (v := undef) rfl (by kernel_rfl) (by kernel_rfl) (by kernel_rfl) (fun _ _ _ h => h) (Or.inr ⟨by rfl, rfl⟩) hHeld ?_
          try simp only [Act.put, List.setIfInBounds_toArray, List.set_cons_zero, List.set_cons_succ]
          refine wpAnyH_take (i := 6) (oi := { dst := some 29, op := Go.Op.load 28 (Go.Operand.tmp 1), type := 28, pos := _, after := #[{ on := 3, ground := Go.Ground.guard }], guard := some (3, false) }) (v := undef) rfl (by kernel_rfl) (by kernel_rfl) (by kernel_rfl) (fun _ _ _ h => h) (Or.inr ⟨by rfl, rfl⟩) hHeld ?_
          try simp only [Act.put, List.setIfInBounds_toArray, List.set_cons_zero, List.set_cons_succ]
          refine wpAnyH_take (i := 7) (oi := { dst := some 30, op := Go.Op.binOp Go.BinOp.neq 28 (Go.Operand.tmp 28) (Go.Operand.tmp 29) 28, type := 4, pos := _, after := #[{ on := 5, ground := Go.Ground.data }, { on := 6, ground := Go.Ground.data }, { on := 3, ground := Go.Ground.guard }], guard := some (3, false) }) (v := undef) rfl (by kernel_rfl) (by kernel_rfl) (by kernel_rfl) (fun _ _ _ h => h) (Or.inr ⟨by rfl, rfl⟩) hHeld ?_
          try simp only [Act.put, List.setIfInBounds_toArray, List.set_cons_zero, List.set_cons_succ]
          refine wpAnyH_take (i := 8) (oi := { dst := some 31, op := Go.Op.pick (Go.Operand.tmp 26) (Go.Operand.const (Go.Value.bool true)) (Go.Operand.tmp 30), type := 4, pos := _, after := #[{ on := 3, ground := Go.Ground.data }, { on := 7, ground := Go.Ground.data }], guard := none }) (v := .bool true) rfl (by kernel_rfl) (by kernel_rfl) (by kernel_rfl) (fun _ _ _ h => h) (Or.inl ⟨by rfl, fun w' hw' => ?_⟩) hHeld ?_
          · first | (go_simp; done) | (go_simp; rfl)
          try simp only [Act.put, List.setIfInBounds_toArray, List.set_cons_zero, List.set_cons_succ]
          refine wpAnyH_done (by kernel_rfl) ?_ _
          have HR8 : Hid _ := hHeld5.res
          have HB8 : Hid _ := hHeld5.bel
          rw [← hRL] at HBR
          clear hHeld hHeld5 HC hRL
          go_wp2_with (first
            | (refine wpList_build rfl 38 #[] rfl #[] (.agg RL.toArray) (by simp) (HBR.out _) ?_)
            | (refine wpList_load_mid rfl 38 _ rfl qb 0 rfl RL _ HQ8.out Try.underlying38 rfl HLI.out ?_)
            | (refine wpList_store_row rfl 38 _ _ rfl (w.heap.size + 1) RL.toArray rfl rfl 38 RZ.toArray HR8.out HLA.out HLS.out HO1.out ?_))
          refine bodyPost_ret (v := .tuple #[.agg RL.toArray, .bool false]) (results2 Try.results21 _ _ (w.heap.size + 1) 38 RL (0, 0) _ rfl rfl (setRow_heap _ _ _ _ _ _ HR8.out) Try.underlying38 rfl HLI.out) rfl ⟨rfl, below_setRow HB8.out (by omega) _⟩
        · subst he hok
          refine wpAnyH_take (i := 2) (oi := { dst := some 25, op := Go.Op.unOp Go.UnOp.not 4 (Go.Operand.tmp 24), type := 4, pos := _, after := #[{ on := 1, ground := Go.Ground.data }], guard := none }) (v := .bool false) rfl (by kernel_rfl) (by kernel_rfl) (by kernel_rfl) (fun _ _ _ h => h) (Or.inl ⟨by rfl, fun w' hw' => ?_⟩) hHeld ?_
          · first | (go_simp; done) | (go_simp; rfl)
          try simp only [Act.put, List.setIfInBounds_toArray, List.set_cons_zero, List.set_cons_succ]
          refine wpAnyH_take (i := 3) (oi := { dst := some 26, op := Go.Op.move (Go.Operand.tmp 25), type := 4, pos := _, after := #[{ on := 2, ground := Go.Ground.data }, { on := 1, ground := Go.Ground.chain }], guard := none }) (v := .bool false) rfl (by kernel_rfl) (by kernel_rfl) (by kernel_rfl) (fun _ _ _ h => h) (Or.inl ⟨by rfl, fun w' hw' => ?_⟩) hHeld ?_
          · first | (go_simp; done) | (go_simp; rfl)
          try simp only [Act.put, List.setIfInBounds_toArray, List.set_cons_zero, List.set_cons_succ]
          refine wpAnyH_take (i := 4) (oi := { dst := some 27, op := Go.Op.load 38 (Go.Operand.tmp 4), type := 38, pos := _, after := #[{ on := 3, ground := Go.Ground.guard }], guard := some (3, false) }) rfl (by kernel_rfl) (by kernel_rfl) (by kernel_rfl) (fun _ _ _ h => h) (yieldsIf_load_mid (by rfl) 38 (.tmp 4) rfl (qb) (0) rfl (QL) _ (fun _ h => rangeAt_row h.q) Try.underlying38 rfl HQI.out) hHeld ?_
          try simp only [Act.put, List.setIfInBounds_toArray, List.set_cons_zero, List.set_cons_succ]
          refine wpAnyH_take (i := 6) (oi := { dst := some 29, op := Go.Op.load 28 (Go.Operand.tmp 1), type := 28, pos := _, after := #[{ on := 3, ground := Go.Ground.guard }], guard := some (3, false) }) rfl (by kernel_rfl) (by kernel_rfl) (by kernel_rfl) (fun _ _ _ h => h) (yieldsIf_load_mid (by rfl) 28 (.tmp 1) rfl (w.heap.size) (0) rfl (GA) _ (fun _ h => rangeAt_row h.gr) Try.underlying28 rfl HGI.out) hHeld ?_
          try simp only [Act.put, List.setIfInBounds_toArray, List.set_cons_zero, List.set_cons_succ]
          refine wpAnyH_ready (rs := [5]) (by kernel_rfl) (by simp) ?_
          refine AllReadyH.cons (o := { dst := some 28, op := Go.Op.call { callee := Go.Callee.value (Go.Operand.func 17), args := #[Go.Operand.tmp 27], argTypes := #[38] }, type := 28, pos := _, after := #[{ on := 4, ground := Go.Ground.data }, { on := 3, ground := Go.Ground.chain }, { on := 3, ground := Go.Ground.guard }], guard := some (3, false) }) rfl (fun K hK => ?_) AllReadyH.nil
          rw [if_pos (by rfl)]
          go_wp2_with fail
          refine Calls.mono (hRB _) ?_
          rintro e w6 ⟨rfl, hb6⟩
          have hHeld6 := hHeld5.below hb6
          clear hb6 hHeld hHeld5
          refine hK.out _ _ hHeld6 (fun _ => ?_)
          clear hK K
          try simp only [Act.put, List.setIfInBounds_toArray, List.set_cons_zero, List.set_cons_succ]
          have hHeld := hHeld6
          refine wpAnyH_take (i := 7) (oi := { dst := some 30, op := Go.Op.binOp Go.BinOp.neq 28 (Go.Operand.tmp 28) (Go.Operand.tmp 29) 28, type := 4, pos := _, after := #[{ on := 5, ground := Go.Ground.data }, { on := 6, ground := Go.Ground.data }, { on := 3, ground := Go.Ground.guard }], guard := some (3, false) }) (v := .bool true) rfl (by kernel_rfl) (by kernel_rfl) (by kernel_rfl) (fun _ _ _ h => h) (Or.inl ⟨by rfl, fun w' hw' => ?_⟩) hHeld ?_
          · first | (go_simp; done) | (go_simp; rfl)
          try simp only [Act.put, List.setIfInBounds_toArray, List.set_cons_zero, List.set_cons_succ]
          refine wpAnyH_take (i := 8) (oi := { dst := some 31, op := Go.Op.pick (Go.Operand.tmp 26) (Go.Operand.const (Go.Value.bool true)) (Go.Operand.tmp 30), type := 4, pos := _, after := #[{ on := 3, ground := Go.Ground.data }, { on := 7, ground := Go.Ground.data }], guard := none }) (v := .bool true) rfl (by kernel_rfl) (by kernel_rfl) (by kernel_rfl) (fun _ _ _ h => h) (Or.inl ⟨by rfl, fun w' hw' => ?_⟩) hHeld ?_
          · first | (go_simp; done) | (go_simp; rfl)
          try simp only [Act.put, List.setIfInBounds_toArray, List.set_cons_zero, List.set_cons_succ]
          refine wpAnyH_done (by kernel_rfl) ?_ _
          have HR8 : Hid _ := hHeld6.res
          have HB8 : Hid _ := hHeld6.bel
          rw [← hRL] at HBR
          clear hHeld hHeld6 HC hRL
          go_wp2_with (first
            | (refine wpList_build rfl 38 #[] rfl #[] (.agg RL.toArray) (by simp) (HBR.out _) ?_)
            | (refine wpList_load_mid rfl 38 _ rfl qb 0 rfl RL _ HQ8.out Try.underlying38 rfl HLI.out ?_)
            | (refine wpList_store_row rfl 38 _ _ rfl (w.heap.size + 1) RL.toArray rfl rfl 38 RZ.toArray HR8.out HLA.out HLS.out HO1.out ?_))
          refine bodyPost_ret (v := .tuple #[.agg RL.toArray, .bool false]) (results2 Try.results21 _ _ (w.heap.size + 1) 38 RL (0, 0) _ rfl rfl (setRow_heap _ _ _ _ _ _ HR8.out) Try.underlying38 rfl HLI.out) rfl ⟨rfl, below_setRow HB8.out (by omega) _⟩
        · subst he hok
          refine wpAnyH_take (i := 2) (oi := { dst := some 25, op := Go.Op.unOp Go.UnOp.not 4 (Go.Operand.tmp 24), type := 4, pos := _, after := #[{ on := 1, ground := Go.Ground.data }], guard := none }) (v := .bool false) rfl (by kernel_rfl) (by kernel_rfl) (by kernel_rfl) (fun _ _ _ h => h) (Or.inl ⟨by rfl, fun w' hw' => ?_⟩) hHeld ?_
          · first | (go_simp; done) | (go_simp; rfl)
          try simp only [Act.put, List.setIfInBounds_toArray, List.set_cons_zero, List.set_cons_succ]
          refine wpAnyH_take (i := 3) (oi := { dst := some 26, op := Go.Op.move (Go.Operand.tmp 25), type := 4, pos := _, after := #[{ on := 2, ground := Go.Ground.data }, { on := 1, ground := Go.Ground.chain }], guard := none }) (v := .bool false) rfl (by kernel_rfl) (by kernel_rfl) (by kernel_rfl) (fun _ _ _ h => h) (Or.inl ⟨by rfl, fun w' hw' => ?_⟩) hHeld ?_
          · first | (go_simp; done) | (go_simp; rfl)
          try simp only [Act.put, List.setIfInBounds_toArray, List.set_cons_zero, List.set_cons_succ]
          refine wpAnyH_take (i := 4) (oi := { dst := some 27, op := Go.Op.load 38 (Go.Operand.tmp 4), type := 38, pos := _, after := #[{ on := 3, ground := Go.Ground.guard }], guard := some (3, false) }) rfl (by kernel_rfl) (by kernel_rfl) (by kernel_rfl) (fun _ _ _ h => h) (yieldsIf_load_mid (by rfl) 38 (.tmp 4) rfl (qb) (0) rfl (QL) _ (fun _ h => rangeAt_row h.q) Try.underlying38 rfl HQI.out) hHeld ?_
          try simp only [Act.put, List.setIfInBounds_toArray, List.set_cons_zero, List.set_cons_succ]
          refine wpAnyH_take (i := 6) (oi := { dst := some 29, op := Go.Op.load 28 (Go.Operand.tmp 1), type := 28, pos := _, after := #[{ on := 3, ground := Go.Ground.guard }], guard := some (3, false) }) rfl (by kernel_rfl) (by kernel_rfl) (by kernel_rfl) (fun _ _ _ h => h) (yieldsIf_load_mid (by rfl) 28 (.tmp 1) rfl (w.heap.size) (0) rfl (GA) _ (fun _ h => rangeAt_row h.gr) Try.underlying28 rfl HGI.out) hHeld ?_
          try simp only [Act.put, List.setIfInBounds_toArray, List.set_cons_zero, List.set_cons_succ]
          refine wpAnyH_ready (rs := [5]) (by kernel_rfl) (by simp) ?_
          refine AllReadyH.cons (o := { dst := some 28, op := Go.Op.call { callee := Go.Callee.value (Go.Operand.func 17), args := #[Go.Operand.tmp 27], argTypes := #[38] }, type := 28, pos := _, after := #[{ on := 4, ground := Go.Ground.data }, { on := 3, ground := Go.Ground.chain }, { on := 3, ground := Go.Ground.guard }], guard := some (3, false) }) rfl (fun K hK => ?_) AllReadyH.nil
          rw [if_pos (by rfl)]
          go_wp2_with fail
          refine Calls.mono (hRB _) ?_
          rintro e w6 ⟨rfl, hb6⟩
          have hHeld6 := hHeld5.below hb6
          clear hb6 hHeld hHeld5
          refine hK.out _ _ hHeld6 (fun _ => ?_)
          clear hK K
          try simp only [Act.put, List.setIfInBounds_toArray, List.set_cons_zero, List.set_cons_succ]
          have hHeld := hHeld6
          refine wpAnyH_take (i := 7) (oi := { dst := some 30, op := Go.Op.binOp Go.BinOp.neq 28 (Go.Operand.tmp 28) (Go.Operand.tmp 29) 28, type := 4, pos := _, after := #[{ on := 5, ground := Go.Ground.data }, { on := 6, ground := Go.Ground.data }, { on := 3, ground := Go.Ground.guard }], guard := some (3, false) }) (v := .bool false) rfl (by kernel_rfl) (by kernel_rfl) (by kernel_rfl) (fun _ _ _ h => h) (Or.inl ⟨by rfl, fun w' hw' => ?_⟩) hHeld ?_
          · first | (go_simp; done) | (go_simp; rfl)
          try simp only [Act.put, List.setIfInBounds_toArray, List.set_cons_zero, List.set_cons_succ]
          refine wpAnyH_take (i := 8) (oi := { dst := some 31, op := Go.Op.pick (Go.Operand.tmp 26) (Go.Operand.const (Go.Value.bool true)) (Go.Operand.tmp 30), type := 4, pos := _, after := #[{ on := 3, ground := Go.Ground.data }, { on := 7, ground := Go.Ground.data }], guard := none }) (v := .bool false) rfl (by kernel_rfl) (by kernel_rfl) (by kernel_rfl) (fun _ _ _ h => h) (Or.inl ⟨by rfl, fun w' hw' => ?_⟩) hHeld ?_
          · first | (go_simp; done) | (go_simp; rfl)
          try simp only [Act.put, List.setIfInBounds_toArray, List.set_cons_zero, List.set_cons_succ]
          refine wpAnyH_done (by kernel_rfl) ?_ _
          have HR8 : Hid _ := hHeld6.res
          have HB8 : Hid _ := hHeld6.bel
          have HQ8 : Hid (w6.rangeAt qb 0 RL) := by rw [hRL]; exact rangeAt_row hHeld6.q
          clear hHeld hHeld6 HC hRL
          go_wp2_with (first
            | (refine wpList_build rfl 38 #[] rfl #[] (.agg RL.toArray) (by simp) (HBR.out _) ?_)
            | (refine wpList_load_mid rfl 38 _ rfl qb 0 rfl RL _ HQ8.out Try.underlying38 rfl HLI.out ?_)
            | (refine wpList_store_row rfl 38 _ _ rfl (w.heap.size + 1) RL.toArray rfl rfl 38 RZ.toArray HR8.out HLA.out HLS.out HO1.out ?_))
          refine bodyPost_ret (v := .tuple #[.agg RL.toArray, .bool true]) (results2 Try.results21 _ _ (w.heap.size + 1) 38 RL (0, 0) _ rfl rfl (setRow_heap _ _ _ _ _ _ HR8.out) Try.underlying38 rfl HLI.out) rfl ⟨rfl, below_setRow HB8.out (by omega) _⟩
  · go_wp2_with fail
    have hHeld2 := hHeld.below ((Below.refl _ _).alloc (Nat.le_refl _) (.cells RZ.toArray 38 (0, 0)))
    refine hK.out _ _ hHeld2 (fun _ => ?_)
    clear hK K
    try simp only [Act.put, List.setIfInBounds_toArray, List.set_cons_zero, List.set_cons_succ]
    refine wpAnyH_ready (rs := [1]) (by kernel_rfl) (by simp) ?_
    refine AllReadyH.cons (o := { dst := some 7, op := Go.Op.call { callee := Go.Callee.value (Go.Operand.func 31), args := #[Go.Operand.tmp 6, Go.Operand.const (Go.Value.int Go.IntKind.i64 1)], argTypes := #[56, 3] }, type := 24, pos := _, after := #[{ on := 0, ground := Go.Ground.data }], guard := none }) rfl (fun K hK => ?_) AllReadyH.nil
    rw [if_pos (by rfl)]
    go_wp2_with fail
    refine Calls.mono (HWD.out _ (rangeAt_row hHeld2.gr)) ?_
    rintro e w2 ⟨rfl, hw2⟩
    subst hw2
    refine hK.out _ _ hHeld2 (fun _ => ?_)
    clear hK K
    try simp only [Act.put, List.setIfInBounds_toArray, List.set_cons_zero, List.set_cons_succ]
    have hHeld := hHeld2
    refine wpAnyH_take (i := 5) (oi := { dst := some 11, op := Go.Op.build 38 #[(0, Go.Operand.tmp 7), (2, Go.Operand.tmp 10)], type := 38, pos := _, after := #[{ on := 1, ground := Go.Ground.data }, { on := 4, ground := Go.Ground.data }], guard := none }) (v := .agg (rcL (gP G) Z8 (gB G)).toArray) rfl (by kernel_rfl) (by kernel_rfl) (by kernel_rfl) (fun _ _ _ h => h) (Or.inl ⟨by rfl, fun w' hw' => ?_⟩) hHeld ?_
    · rw [exec_build _ _ 38 #[(0, .tmp 7), (2, .tmp 10)] #[(0, .int .u64 (gP G : Int)), (2, .bool (gB G))] _ _ rfl (by simp; first | done | rfl | exact ⟨rfl, rfl⟩) (HBN.out _)]
    try simp only [Act.put, List.setIfInBounds_toArray, List.set_cons_zero, List.set_cons_succ]
    refine wpAnyH_ready (rs := [7]) (by kernel_rfl) (by simp) ?_
    refine AllReadyH.cons (o := { dst := none, op := Go.Op.store 38 (Go.Operand.tmp 4) (Go.Operand.tmp 11), type := 0, pos := _, after := #[{ on := 6, ground := Go.Ground.data }, { on := 5, ground := Go.Ground.data }, { on := 1, ground := Go.Ground.chain }, { on := 0, ground := Go.Ground.phase }, { on := 1, ground := Go.Ground.phase }, { on := 2, ground := Go.Ground.phase }, { on := 3, ground := Go.Ground.phase }, { on := 4, ground := Go.Ground.phase }, { on := 5, ground := Go.Ground.phase }, { on := 6, ground := Go.Ground.phase }], guard := none }) rfl (fun K hK => ?_) AllReadyH.nil
    rw [if_pos (by rfl)]
    refine wp_store_row 38 _ _ rfl X.heap.size (rcL (gP G) Z8 (gB G)).toArray rfl rfl 38 RZ.toArray (heap_alloc_new _ _) HZA.out HZS.out HQ1.out ?_
    have hw3 := hHeldX.new (rcL (gP G) Z8 (gB G))
    have hHeld3 := hHeldX.below (below_new X (.cells RZ.toArray 38 (0, 0)) (rcL (gP G) Z8 (gB G)).toArray)
    have HW3 : Hid _ := hw3
    generalize (X.alloc (.cells RZ.toArray 38 (0, 0))).setRow X.heap.size (rcL (gP G) Z8 (gB G)).toArray = w3 at *
    generalize X.heap.size = qb at *
    refine hK.out _ _ hHeld3 (fun _ => ?_)
    clear hK K
    try simp only [Act.put, List.setIfInBounds_toArray, List.set_cons_zero, List.set_cons_succ]
    refine wpAnyH_done (by kernel_rfl) ?_ _
    clear hHeld hHeldX hHeld2 hHeld3 hw3 HWD HBN HZA HZS HQ1 HX80 hxb
    go_wp2
    go_loopw [5] (fun i wr => ∃ k : Nat, k ≤ 8 ∧ i = .int .i64 k ∧ Hid (QS w 38 (G.map B8) RZ (rcL (gP G) (rk (gS G) k) (gB G)) qb wr)) (fun i _ => 8 - (intOf i).toNat)
    case atStart => exact ⟨0, by omega, rfl, by rw [rk_zero]; exact HW3.out⟩
    case round =>
      obtain ⟨k, hk, rfl, HK⟩ := hrel
      clear HW3
      generalize wr = W at *
      by_cases hlt : k < 8
      · have HWK : Hid _ := rword_any w.heap.size (2 + k) (2 + (k : Int)) G W (by omega) HG.out (by omega) (rangeAt_row HK.out.gr)
        rw [show 8 * (2 + k) = 16 + 8 * k by omega, ← gS_get G k hlt] at HWK
        have HST : Hid _ := rk_set (gS G) k (gS_len G) hlt
        have HRK : Hid _ := rk_len (gS G) k (gS_len G) hk
        have hq0 := cell_of_row _ _ (1 + k) _ _ _ HK.out.q
        rw [List.getElem?_toArray, rcL_r _ _ _ k (by rw [HRK.out]; exact hlt)] at hq0
        have hq1 := frozen_of_row _ _ (1 + k) _ _ HK.out.q
        have HW7 : Hid _ := HK.out.set (1 + k) (.int .u64 (((gS G).getD k 0 : Nat) : Int)) (rcL (gP G) (rk (gS G) (k + 1)) (gB G)) (by rw [rc_setr _ _ _ _ _ (by rw [HRK.out]; exact hlt), HST.out])
        have hk2 : IntKind.i64.wrap (2 + (k : Int)) = 2 + (k : Int) := by rw [IntKind.wrap_i64]; omega
        generalize (gS G).getD k 0 = x at *
        generalize (rk (gS G) k).getD k 0 = y at *
        clear HK
        go_wp2_with fail
        refine Calls.mono HWK.out ?_
        rintro e w7 ⟨rfl, rfl⟩
        clear HWK
        go_wp2
        go_roundw
        case rel => exact ⟨k + 1, by omega, by go_num, HW7.out⟩
        case measure => simp [intOf]; omega
      · have hk8 : k = 8 := by omega
        rw [hk8, rk_all _ (gS_len G)] at HK
        generalize rcL (gP G) (gS G) (gB G) = QL at *
        have HQI : Hid _ := info10 QL HQN.out
        have HW5 : Hid _ := HK.out.below (Below.refl _ _).drew
        generalize G.map B8 = GA at *
        clear hk8 HK
        go_wp2
        refine wp_region_held_drew (S := QS w 38 GA RZ QL qb) (by kernel_rfl) HW5.out (fun hHeld => ?_)
        refine wpAnyH_take (i := 0) (oi := { dst := some 23, op := Go.Op.load 38 (Go.Operand.tmp 4), type := 38, pos := _, after := #[], guard := none }) rfl (by kernel_rfl) (by kernel_rfl) (by kernel_rfl) (fun _ _ _ h => h) (yieldsIf_load_mid (by rfl) 38 (.tmp 4) rfl (qb) (0) rfl (QL) _ (fun _ h => rangeAt_row h.q) Try.underlying38 rfl HQI.out) hHeld ?_
        try simp only [Act.put, List.setIfInBounds_toArray, List.set_cons_zero, List.set_cons_succ]
        refine wpAnyH_ready (rs := [1]) (by kernel_rfl) (by simp) ?_
        refine AllReadyH.cons (o := { dst := some 24, op := Go.Op.call { callee := Go.Callee.value (Go.Operand.func 16), args := #[Go.Operand.tmp 23], argTypes := #[38] }, type := 4, pos := _, after := #[{ on := 0, ground := Go.Ground.data }], guard := none }) rfl (fun K hK => ?_) AllReadyH.nil
        rw [if_pos (by rfl)]
        go_wp2_with fail
        refine Calls.mono (hM _) ?_
        rintro e w5 ⟨rfl, hb5⟩
        have hHeld5 := hHeld.below hb5
        clear hb5 hHeld HW5
        refine hK.out _ _ hHeld5 (fun _ => ?_)
        clear hK K
        try simp only [Act.put, List.setIfInBounds_toArray, List.set_cons_zero, List.set_cons_succ]
        have hHeld := hHeld5
        rcases HC.out with ⟨he, hRL, hok⟩ | ⟨he, heq, hRL, hok⟩ | ⟨he, heq, hRL, hok⟩
        · subst he hok
          refine wpAnyH_take (i := 2) (oi := { dst := some 25, op := Go.Op.unOp Go.UnOp.not 4 (Go.Operand.tmp 24), type := 4, pos := _, after := #[{ on := 1, ground := Go.Ground.data }], guard := none }) (v := .bool true) rfl (by kernel_rfl) (by kernel_rfl) (by kernel_rfl) (fun _ _ _ h => h) (Or.inl ⟨by rfl, fun w' hw' => ?_⟩) hHeld ?_
          · first | (go_simp; done) | (go_simp; rfl)
          try simp only [Act.put, List.setIfInBounds_toArray, List.set_cons_zero, List.set_cons_succ]
          refine wpAnyH_take (i := 3) (oi := { dst := some 26, op := Go.Op.move (Go.Operand.tmp 25), type := 4, pos := _, after := #[{ on := 2, ground := Go.Ground.data }, { on := 1, ground := Go.Ground.chain }], guard := none }) (v := .bool true) rfl (by kernel_rfl) (by kernel_rfl) (by kernel_rfl) (fun _ _ _ h => h) (Or.inl ⟨by rfl, fun w' hw' => ?_⟩) hHeld ?_
          · first | (go_simp; done) | (go_simp; rfl)
          try simp only [Act.put, List.setIfInBounds_toArray, List.set_cons_zero, List.set_cons_succ]
          refine wpAnyH_take (i := 4) (oi := { dst := some 27, op := Go.Op.load 38 (Go.Operand.tmp 4), type := 38, pos := _, after := #[{ on := 3, ground := Go.Ground.guard }], guard := some (3, false) }) (v := undef) rfl (by kernel_rfl) (by kernel_rfl) (by kernel_rfl) (fun _ _ _ h => h) (Or.inr ⟨by rfl, rfl⟩) hHeld ?_
          try simp only [Act.put, List.setIfInBounds_toArray, List.set_cons_zero, List.set_cons_succ]
          refine wpAnyH_take (i := 5) (oi := { dst := some 28, op := Go.Op.call { callee := Go.Callee.value (Go.Operand.func 17), args := #[Go.Operand.tmp 27], argTypes := #[38] }, type := 28, pos := _, after := #[{ on := 4, ground := Go.Ground.data }, { on := 3, ground := Go.Ground.chain }, { on := 3, ground := Go.Ground.guard }], guard := some (3, false) }) (v := undef) rfl (by kernel_rfl) (by kernel_rfl) (by kernel_rfl) (fun _ _ _ h => h) (Or.inr ⟨by rfl, rfl⟩) hHeld ?_
          try simp only [Act.put, List.setIfInBounds_toArray, List.set_cons_zero, List.set_cons_succ]
          refine wpAnyH_take (i := 6) (oi := { dst := some 29, op := Go.Op.load 28 (Go.Operand.tmp 1), type := 28, pos := _, after := #[{ on := 3, ground := Go.Ground.guard }], guard := some (3, false) }) (v := undef) rfl (by kernel_rfl) (by kernel_rfl) (by kernel_rfl) (fun _ _ _ h => h) (Or.inr ⟨by rfl, rfl⟩) hHeld ?_
          try simp only [Act.put, List.setIfInBounds_toArray, List.set_cons_zero, List.set_cons_succ]
          refine wpAnyH_take (i := 7) (oi := { dst := some 30, op := Go.Op.binOp Go.BinOp.neq 28 (Go.Operand.tmp 28) (Go.Operand.tmp 29) 28, type := 4, pos := _, after := #[{ on := 5, ground := Go.Ground.data }, { on := 6, ground := Go.Ground.data }, { on := 3, ground := Go.Ground.guard }], guard := some (3, false) }) (v := undef) rfl (by kernel_rfl) (by kernel_rfl) (by kernel_rfl) (fun _ _ _ h => h) (Or.inr ⟨by rfl, rfl⟩) hHeld ?_
          try simp only [Act.put, List.setIfInBounds_toArray, List.set_cons_zero, List.set_cons_succ]
          refine wpAnyH_take (i := 8) (oi := { dst := some 31, op := Go.Op.pick (Go.Operand.tmp 26) (Go.Operand.const (Go.Value.bool true)) (Go.Operand.tmp 30), type := 4, pos := _, after := #[{ on := 3, ground := Go.Ground.data }, { on := 7, ground := Go.Ground.data }], guard := none }) (v := .bool true) rfl (by kernel_rfl) (by kernel_rfl) (by kernel_rfl) (fun _ _ _ h => h) (Or.inl ⟨by rfl, fun w' hw' => ?_⟩) hHeld ?_
          · first | (go_simp; done) | (go_simp; rfl)
          try simp only [Act.put, List.setIfInBounds_toArray, List.set_cons_zero, List.set_cons_succ]
          refine wpAnyH_done (by kernel_rfl) ?_ _
          have HR8 : Hid _ := hHeld5.res
          have HB8 : Hid _ := hHeld5.bel
          rw [← hRL] at HBR
          clear hHeld hHeld5 HC hRL
          go_wp2_with (first
            | (refine wpList_build rfl 38 #[] rfl #[] (.agg RL.toArray) (by simp) (HBR.out _) ?_)
            | (refine wpList_load_mid rfl 38 _ rfl qb 0 rfl RL _ HQ8.out Try.underlying38 rfl HLI.out ?_)
            | (refine wpList_store_row rfl 38 _ _ rfl (w.heap.size + 1) RL.toArray rfl rfl 38 RZ.toArray HR8.out HLA.out HLS.out HO1.out ?_))
          refine bodyPost_ret (v := .tuple #[.agg RL.toArray, .bool false]) (results2 Try.results21 _ _ (w.heap.size + 1) 38 RL (0, 0) _ rfl rfl (setRow_heap _ _ _ _ _ _ HR8.out) Try.underlying38 rfl HLI.out) rfl ⟨rfl, below_setRow HB8.out (by omega) _⟩
        · subst he hok
          refine wpAnyH_take (i := 2) (oi := { dst := some 25, op := Go.Op.unOp Go.UnOp.not 4 (Go.Operand.tmp 24), type := 4, pos := _, after := #[{ on := 1, ground := Go.Ground.data }], guard := none }) (v := .bool false) rfl (by kernel_rfl) (by kernel_rfl) (by kernel_rfl) (fun _ _ _ h => h) (Or.inl ⟨by rfl, fun w' hw' => ?_⟩) hHeld ?_
          · first | (go_simp; done) | (go_simp; rfl)
          try simp only [Act.put, List.setIfInBounds_toArray, List.set_cons_zero, List.set_cons_succ]
          refine wpAnyH_take (i := 3) (oi := { dst := some 26, op := Go.Op.move (Go.Operand.tmp 25), type := 4, pos := _, after := #[{ on := 2, ground := Go.Ground.data }, { on := 1, ground := Go.Ground.chain }], guard := none }) (v := .bool false) rfl (by kernel_rfl) (by kernel_rfl) (by kernel_rfl) (fun _ _ _ h => h) (Or.inl ⟨by rfl, fun w' hw' => ?_⟩) hHeld ?_
          · first | (go_simp; done) | (go_simp; rfl)
          try simp only [Act.put, List.setIfInBounds_toArray, List.set_cons_zero, List.set_cons_succ]
          refine wpAnyH_take (i := 4) (oi := { dst := some 27, op := Go.Op.load 38 (Go.Operand.tmp 4), type := 38, pos := _, after := #[{ on := 3, ground := Go.Ground.guard }], guard := some (3, false) }) rfl (by kernel_rfl) (by kernel_rfl) (by kernel_rfl) (fun _ _ _ h => h) (yieldsIf_load_mid (by rfl) 38 (.tmp 4) rfl (qb) (0) rfl (QL) _ (fun _ h => rangeAt_row h.q) Try.underlying38 rfl HQI.out) hHeld ?_
          try simp only [Act.put, List.setIfInBounds_toArray, List.set_cons_zero, List.set_cons_succ]
          refine wpAnyH_take (i := 6) (oi := { dst := some 29, op := Go.Op.load 28 (Go.Operand.tmp 1), type := 28, pos := _, after := #[{ on := 3, ground := Go.Ground.guard }], guard := some (3, false) }) rfl (by kernel_rfl) (by kernel_rfl) (by kernel_rfl) (fun _ _ _ h => h) (yieldsIf_load_mid (by rfl) 28 (.tmp 1) rfl (w.heap.size) (0) rfl (GA) _ (fun _ h => rangeAt_row h.gr) Try.underlying28 rfl HGI.out) hHeld ?_
          try simp only [Act.put, List.setIfInBounds_toArray, List.set_cons_zero, List.set_cons_succ]
          refine wpAnyH_ready (rs := [5]) (by kernel_rfl) (by simp) ?_
          refine AllReadyH.cons (o := { dst := some 28, op := Go.Op.call { callee := Go.Callee.value (Go.Operand.func 17), args := #[Go.Operand.tmp 27], argTypes := #[38] }, type := 28, pos := _, after := #[{ on := 4, ground := Go.Ground.data }, { on := 3, ground := Go.Ground.chain }, { on := 3, ground := Go.Ground.guard }], guard := some (3, false) }) rfl (fun K hK => ?_) AllReadyH.nil
          rw [if_pos (by rfl)]
          go_wp2_with fail
          refine Calls.mono (hRB _) ?_
          rintro e w6 ⟨rfl, hb6⟩
          have hHeld6 := hHeld5.below hb6
          clear hb6 hHeld hHeld5
          refine hK.out _ _ hHeld6 (fun _ => ?_)
          clear hK K
          try simp only [Act.put, List.setIfInBounds_toArray, List.set_cons_zero, List.set_cons_succ]
          have hHeld := hHeld6
          refine wpAnyH_take (i := 7) (oi := { dst := some 30, op := Go.Op.binOp Go.BinOp.neq 28 (Go.Operand.tmp 28) (Go.Operand.tmp 29) 28, type := 4, pos := _, after := #[{ on := 5, ground := Go.Ground.data }, { on := 6, ground := Go.Ground.data }, { on := 3, ground := Go.Ground.guard }], guard := some (3, false) }) (v := .bool true) rfl (by kernel_rfl) (by kernel_rfl) (by kernel_rfl) (fun _ _ _ h => h) (Or.inl ⟨by rfl, fun w' hw' => ?_⟩) hHeld ?_
          · first | (go_simp; done) | (go_simp; rfl)
          try simp only [Act.put, List.setIfInBounds_toArray, List.set_cons_zero, List.set_cons_succ]
          refine wpAnyH_take (i := 8) (oi := { dst := some 31, op := Go.Op.pick (Go.Operand.tmp 26) (Go.Operand.const (Go.Value.bool true)) (Go.Operand.tmp 30), type := 4, pos := _, after := #[{ on := 3, ground := Go.Ground.data }, { on := 7, ground := Go.Ground.data }], guard := none }) (v := .bool true) rfl (by kernel_rfl) (by kernel_rfl) (by kernel_rfl) (fun _ _ _ h => h) (Or.inl ⟨by rfl, fun w' hw' => ?_⟩) hHeld ?_
          · first | (go_simp; done) | (go_simp; rfl)
          try simp only [Act.put, List.setIfInBounds_toArray, List.set_cons_zero, List.set_cons_succ]
          refine wpAnyH_done (by kernel_rfl) ?_ _
          have HR8 : Hid _ := hHeld6.res
          have HB8 : Hid _ := hHeld6.bel
          rw [← hRL] at HBR
          clear hHeld hHeld6 HC hRL
          go_wp2_with (first
            | (refine wpList_build rfl 38 #[] rfl #[] (.agg RL.toArray) (by simp) (HBR.out _) ?_)
            | (refine wpList_load_mid rfl 38 _ rfl qb 0 rfl RL _ HQ8.out Try.underlying38 rfl HLI.out ?_)
            | (refine wpList_store_row rfl 38 _ _ rfl (w.heap.size + 1) RL.toArray rfl rfl 38 RZ.toArray HR8.out HLA.out HLS.out HO1.out ?_))
          refine bodyPost_ret (v := .tuple #[.agg RL.toArray, .bool false]) (results2 Try.results21 _ _ (w.heap.size + 1) 38 RL (0, 0) _ rfl rfl (setRow_heap _ _ _ _ _ _ HR8.out) Try.underlying38 rfl HLI.out) rfl ⟨rfl, below_setRow HB8.out (by omega) _⟩
        · subst he hok
          refine wpAnyH_take (i := 2) (oi := { dst := some 25, op := Go.Op.unOp Go.UnOp.not 4 (Go.Operand.tmp 24), type := 4, pos := _, after := #[{ on := 1, ground := Go.Ground.data }], guard := none }) (v := .bool false) rfl (by kernel_rfl) (by kernel_rfl) (by kernel_rfl) (fun _ _ _ h => h) (Or.inl ⟨by rfl, fun w' hw' => ?_⟩) hHeld ?_
          · first | (go_simp; done) | (go_simp; rfl)
          try simp only [Act.put, List.setIfInBounds_toArray, List.set_cons_zero, List.set_cons_succ]
          refine wpAnyH_take (i := 3) (oi := { dst := some 26, op := Go.Op.move (Go.Operand.tmp 25), type := 4, pos := _, after := #[{ on := 2, ground := Go.Ground.data }, { on := 1, ground := Go.Ground.chain }], guard := none }) (v := .bool false) rfl (by kernel_rfl) (by kernel_rfl) (by kernel_rfl) (fun _ _ _ h => h) (Or.inl ⟨by rfl, fun w' hw' => ?_⟩) hHeld ?_
          · first | (go_simp; done) | (go_simp; rfl)
          try simp only [Act.put, List.setIfInBounds_toArray, List.set_cons_zero, List.set_cons_succ]
          refine wpAnyH_take (i := 4) (oi := { dst := some 27, op := Go.Op.load 38 (Go.Operand.tmp 4), type := 38, pos := _, after := #[{ on := 3, ground := Go.Ground.guard }], guard := some (3, false) }) rfl (by kernel_rfl) (by kernel_rfl) (by kernel_rfl) (fun _ _ _ h => h) (yieldsIf_load_mid (by rfl) 38 (.tmp 4) rfl (qb) (0) rfl (QL) _ (fun _ h => rangeAt_row h.q) Try.underlying38 rfl HQI.out) hHeld ?_
          try simp only [Act.put, List.setIfInBounds_toArray, List.set_cons_zero, List.set_cons_succ]
          refine wpAnyH_take (i := 6) (oi := { dst := some 29, op := Go.Op.load 28 (Go.Operand.tmp 1), type := 28, pos := _, after := #[{ on := 3, ground := Go.Ground.guard }], guard := some (3, false) }) rfl (by kernel_rfl) (by kernel_rfl) (by kernel_rfl) (fun _ _ _ h => h) (yieldsIf_load_mid (by rfl) 28 (.tmp 1) rfl (w.heap.size) (0) rfl (GA) _ (fun _ h => rangeAt_row h.gr) Try.underlying28 rfl HGI.out) hHeld ?_
          try simp only [Act.put, List.setIfInBounds_toArray, List.set_cons_zero, List.set_cons_succ]
          refine wpAnyH_ready (rs := [5]) (by kernel_rfl) (by simp) ?_
          refine AllReadyH.cons (o := { dst := some 28, op := Go.Op.call { callee := Go.Callee.value (Go.Operand.func 17), args := #[Go.Operand.tmp 27], argTypes := #[38] }, type := 28, pos := _, after := #[{ on := 4, ground := Go.Ground.data }, { on := 3, ground := Go.Ground.chain }, { on := 3, ground := Go.Ground.guard }], guard := some (3, false) }) rfl (fun K hK => ?_) AllReadyH.nil
          rw [if_pos (by rfl)]
          go_wp2_with fail
          refine Calls.mono (hRB _) ?_
          rintro e w6 ⟨rfl, hb6⟩
          have hHeld6 := hHeld5.below hb6
          clear hb6 hHeld hHeld5
          refine hK.out _ _ hHeld6 (fun _ => ?_)
          clear hK K
          try simp only [Act.put, List.setIfInBounds_toArray, List.set_cons_zero, List.set_cons_succ]
          have hHeld := hHeld6
          refine wpAnyH_take (i := 7) (oi := { dst := some 30, op := Go.Op.binOp Go.BinOp.neq 28 (Go.Operand.tmp 28) (Go.Operand.tmp 29) 28, type := 4, pos := _, after := #[{ on := 5, ground := Go.Ground.data }, { on := 6, ground := Go.Ground.data }, { on := 3, ground := Go.Ground.guard }], guard := some (3, false) }) (v := .bool false) rfl (by kernel_rfl) (by kernel_rfl) (by kernel_rfl) (fun _ _ _ h => h) (Or.inl ⟨by rfl, fun w' hw' => ?_⟩) hHeld ?_
          · first | (go_simp; done) | (go_simp; rfl)
          try simp only [Act.put, List.setIfInBounds_toArray, List.set_cons_zero, List.set_cons_succ]
          refine wpAnyH_take (i := 8) (oi := { dst := some 31, op := Go.Op.pick (Go.Operand.tmp 26) (Go.Operand.const (Go.Value.bool true)) (Go.Operand.tmp 30), type := 4, pos := _, after := #[{ on := 3, ground := Go.Ground.data }, { on := 7, ground := Go.Ground.data }], guard := none }) (v := .bool false) rfl (by kernel_rfl) (by kernel_rfl) (by kernel_rfl) (fun _ _ _ h => h) (Or.inl ⟨by rfl, fun w' hw' => ?_⟩) hHeld ?_
          · first | (go_simp; done) | (go_simp; rfl)
          try simp only [Act.put, List.setIfInBounds_toArray, List.set_cons_zero, List.set_cons_succ]
          refine wpAnyH_done (by kernel_rfl) ?_ _
          have HR8 : Hid _ := hHeld6.res
          have HB8 : Hid _ := hHeld6.bel
          have HQ8 : Hid (w6.rangeAt qb 0 RL) := by rw [hRL]; exact rangeAt_row hHeld6.q
          clear hHeld hHeld6 HC hRL
          go_wp2_with (first
            | (refine wpList_build rfl 38 #[] rfl #[] (.agg RL.toArray) (by simp) (HBR.out _) ?_)
            | (refine wpList_load_mid rfl 38 _ rfl qb 0 rfl RL _ HQ8.out Try.underlying38 rfl HLI.out ?_)
            | (refine wpList_store_row rfl 38 _ _ rfl (w.heap.size + 1) RL.toArray rfl rfl 38 RZ.toArray HR8.out HLA.out HLS.out HO1.out ?_))
          refine bodyPost_ret (v := .tuple #[.agg RL.toArray, .bool true]) (results2 Try.results21 _ _ (w.heap.size + 1) 38 RL (0, 0) _ rfl rfl (setRow_heap _ _ _ _ _ _ HR8.out) Try.underlying38 rfl HLI.out) rfl ⟨rfl, below_setRow HB8.out (by omega) _⟩
end Go.Proofs.Ytabnmhmlcoakkaa.PC
