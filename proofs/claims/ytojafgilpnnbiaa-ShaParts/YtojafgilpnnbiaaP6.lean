/- ShaParts: for any parts and any bytes, the statement's function answers true and leaves its arguments as they were. No condition. -/
import Derived.Test.YtojafgilpnnbiaaA6
import Derived.Test.YtojafgilpnnbiaaN3
import Derived.Test.YtojafgilpnnbiaaRows
import Derived.WalkKit
import Derived.ProofKit
import Derived.OpenShut
import Derived.Carry
set_option linter.unusedVariables false
set_option linter.unusedSimpArgs false
namespace Go.Proofs.Ytojafgilpnnbiaa.shaParts
open Go.ChangeShapes Go.WideShapes Go.ChangeAt Go.RowKit

theorem own : ownKnob Try.prog.godebug = none := by kernel_rfl
theorem laidOut : laidOutB Try.prog = true := by kernel_rfl

theorem FB.keep {base : Nat} {w w' : World} {v : Value} {l : List UInt8} (h : FB base w v l) (hk : ∀ j, v.ownBlock = some j → w'.heap[j]? = w.heap[j]?) : FB base w' v l := by
  obtain ⟨h1, h2⟩ := h
  refine ⟨h1, ?_⟩
  rcases h2 with h2 | ⟨g, cap, cur, hv, hg, hh, r⟩
  · exact .inl h2
  · exact .inr ⟨g, cap, cur, hv, hg, (hk g (by rw [hv]; rfl)).trans hh, r⟩
theorem eqs (w : World) (xs : List UInt8) (hx : xs.length = 32) : (Op.equalIn 10000 25 (.agg (xs.map B8).toArray) (.agg (xs.map B8).toArray)).run Try.prog w = .ok true w := by
  have := run_equalIn_bytes (P := Try.prog) w 9998 25 5 32 Try.underlying25 Try.underlying5 size_u8 xs xs hx hx
  rw [show (xs == xs) = true by simp] at this
  exact this
theorem neqs (w : World) (xs : List UInt8) (hx : xs.length = 32) : (binOp .neq 25 (.agg (xs.map B8).toArray) (.agg (xs.map B8).toArray)).run Try.prog w = .ok (.bool false) w := by
  rw [run_neq_struct, eqs w xs hx]; rfl
theorem eqls (w : World) (xs : List UInt8) (hx : xs.length = 32) : (binOp .eql 25 (.agg (xs.map B8).toArray) (.agg (xs.map B8).toArray)).run Try.prog w = .ok (.bool true) w := by
  rw [run_eql_struct, eqs w xs hx]; rfl

set_option maxHeartbeats 16000000 in
set_option maxRecDepth 100000 in
theorem walk (lv : Value) (ls : List (List UInt8)) (mv : Value) (mo : List UInt8) (w : World) (hml : ls.length ≤ 9223372036854775807) (hnl : ∀ l ∈ ls, l.length ≤ 9223372036854775807) (hl : HL w lv ls) (hmm : mo.length ≤ 9223372036854775807) (hmo : HB w mv mo) :
    Calls Try.prog 6 #[lv, mv] w fun e w' => e = .returned (.bool true) ∧ Below w.heap.size w w' := by
  have hkn := fun W => known_any W
  have hnum := fun k W => num_any k W
  have hmu := fun W hW => much_any lv ls 600 W hml hnl (by decide) hW
  obtain ⟨p, cp, rfl, hparts⟩ := hl.parts
  obtain ⟨pm, cm, rfl, _⟩ := hmo.cells
  have HLS : Hid _ := hl
  have HMO : Hid _ := hmo
  have HPT : Hid _ := hparts
  clear hl hmo hparts hml hnl hmm
  go_enter Try.func6, Try.ntmps6
  go_wp2_with fail
  refine (hkn _).mono ?_
  rintro e w1 ⟨rfl, hb1⟩
  clear hkn
  go_wp2_with fail
  refine (hmu _ (HL.below HLS.out hb1)).mono ?_
  rintro e wx ⟨⟨bb, rfl, hbb⟩, rfl⟩
  clear hmu
  cases bb with
  | true =>
    go_wp2
    go_ret
    exact ⟨rfl, hb1⟩
  | false =>
    obtain ⟨hlen, heach⟩ := hbb rfl
    have HEA : Hid _ := heach
    clear hbb heach
    by_cases hm6 : mo.length ≤ 600
    · have hm6' : ¬ (600 : Int) < (mo.length : Int) := by omega
      go_wp2_with fail
      refine (newM_any _).mono ?_
      rintro e w2 ⟨b, rfl, hm2, hb, hb2⟩
      have hs1 := hb1.size
      have hbw2 : Below w.heap.size w w2 := hb1.trans (hb2.mono hs1)
      have HM2 : Hid _ := hm2
      have hbw : w.heap.size ≤ b := by omega
      clear hb2 hb1 hm2
      go_wp2
      go_loopw [6, 7] (fun va i wr => ∃ k : Nat, k ≤ ls.length ∧ i = .int .i64 k ∧ FB (b + 1) wr va (ls.take k).flatten ∧ HM wr b (ls.take k).flatten ∧ Below w.heap.size w wr) (fun _ i _ => ls.length - (intOf i).toNat)
      case atStart => exact ⟨0, Nat.zero_le _, rfl, World.ownsRow_nil _ _ _ _, HM2.out, hbw2⟩
      case round =>
        obtain ⟨k, hk, rfl, hfa, hmr, hbel⟩ := hrel
        obtain ⟨wr0, rfl⟩ : ∃ wr0, wr0 = wr := ⟨_, rfl⟩
        have hbr : b < wr0.heap.size := row_lt hmr
        have hcl : (ls.take k).flatten.length ≤ 360000 := by
          have h1 : ∀ l ∈ ls.take k, l.length ≤ 600 := fun l hl => HEA.out l (List.mem_of_mem_take hl)
          have h2 : ∀ (L : List (List UInt8)), (∀ l ∈ L, l.length ≤ 600) → L.flatten.length ≤ L.length * 600 := by
            intro L
            induction L with
            | nil => intro _; simp
            | cons a r ih =>
              intro h
              have h3 := ih (fun l hl => h l (by simp [hl]))
              have h4 := h a (by simp)
              simp only [List.flatten_cons, List.length_append, List.length_cons]
              omega
          have h3 := h2 _ h1
          have h4 : (ls.take k).length ≤ 600 := by rw [List.length_take]; omega
          exact Nat.le_trans h3 (by omega)
        by_cases hlt : k < ls.length
        · obtain ⟨gl, ol, rfl, u, hu, hbu⟩ := HPT.out k hlt
          have hft := flat_take ls k hlt
          have hgd : ls.getD k [] = ls[k] := by simp [List.getD, List.getElem?_eq_getElem hlt]
          rw [hgd] at hft
          have hle := HEA.out ls[k] (List.getElem_mem hlt)
          have HFT : Hid _ := hft
          clear hft hgd
          generalize ls[k] = l at *
          generalize (ls.take k).flatten = M at *
          obtain ⟨pu, cu, rfl, _⟩ := hbu.cells
          have hcu : wr0.cell? ⟨gl, ol + k, none⟩ = some (.slice pu l.length cu) := (hbel.cell (block_lt hu)).trans hu
          have HUr : Hid _ := HB.below hbu hbel
          have HU : Hid _ := hu
          have HBU : Hid _ := hbu
          have HFA : Hid _ := hfa
          have HMR : Hid _ := hmr
          clear hu hbu hfa hmr
          go_wp2_with (at_builtin; refine wpList_appHB rfl (.const (.slice none 0 0)) (.tmp 38) rfl wr0.heap.size (.slice none 0 0) _ [] l rfl rfl (World.ownsRow_nil _ _ _ _) HUr.out (by simp; omega) (Nat.le_refl _) ?_; intro vo w3 hf3 hg3; rw [List.nil_append] at hf3; obtain ⟨po, co, rfl⟩ := hf3.form')
          have c3 : Below wr0.heap.size wr0 w3 := (Below.refl _ _).grown hg3 (Nat.le_refl _) (fun j hj => by cases hj)
          have hs3 := c3.size
          have HM3 : Hid _ := HM.below HMR.out c3
          have HF3 : Hid _ := hf3
          clear hg3 hcu hf3
          refine (writeM_any b M (.slice po l.length co) l w3 (by omega) HM3.out (FB.hb HF3.out)).mono ?_
          rintro e w4 ⟨rfl, hm4, hkb4⟩
          have HM4 : Hid _ := hm4
          have HK4 : Hid _ := hkb4
          have hs4 := hkb4.1.size
          have HO4 : Hid (FB wr0.heap.size w4 (.slice po l.length co) l) := FB.beside HF3.out (.inl hbr) hkb4.2
          clear hm4 hkb4
          go_wp2_with fail
          refine (hnum _ _).mono ?_
          rintro e wy ⟨rfl, rfl⟩
          go_wp2
          go_loopw [9] (fun j wi => ∃ q : Nat, q ≤ l.length ∧ j = .int .i64 q ∧ (∀ g, po = some ⟨g, 0, none⟩ → 0 < l.length → ∃ cur : Array Value, wi.heap[g]? = some (.cells cur 5 (0, 0)) ∧ l.length ≤ cur.size) ∧ Below wr0.heap.size w4 wi) (fun j _ => l.length - (intOf j).toNat)
          case atStart =>
            refine ⟨0, Nat.zero_le _, rfl, fun g e hl0 => ?_, Below.refl _ _⟩
            rcases HO4.out.2 with ⟨h1, h2⟩ | ⟨g', cap, cur, h1, h2, h3, h4, h5, h6, h7⟩
            · omega
            · simp only [Value.slice.injEq] at h1
              rw [e] at h1
              simp only [Option.some.injEq, Addr.mk.injEq] at h1
              refine ⟨cur, ?_, by omega⟩
              rw [h1.1.1]; exact h3
          case round =>
            obtain ⟨q, hq, rfl, hrow, hbi⟩ := hrel
            by_cases hqlt : q < l.length
            · rcases HO4.out.2 with ⟨h1, h2⟩ | ⟨g, cap, cur, h1, h2, h3, h4, h5, h6, h7⟩
              · omega
              simp only [Value.slice.injEq] at h1
              obtain ⟨rfl, _, rfl⟩ := h1
              obtain ⟨cur', hc1, hc2⟩ := hrow g rfl (by omega)
              have hcell : wr.cell? ⟨g, q, none⟩ = some cur'[q] := by rw [cell_of_row _ _ q _ _ _ hc1]; exact Array.getElem?_eq_getElem (by omega)
              have hfz := frozen_of_row _ _ q _ _ hc1
              have HC1 : Hid _ := hc1
              generalize cur'[q] = uu at *
              clear hc1 hrow h3 h4 h5 h6 h7
              go_wp2
              go_roundw
              case rel =>
                refine ⟨q + 1, by omega, by go_num, fun g' e _ => ?_, hbi.setCell (p := ⟨g, q, none⟩) (by simp; omega) _⟩
                simp only [Option.some.injEq, Addr.mk.injEq] at e
                rw [← e.1]
                exact ⟨_, heap_setCell_same _ g q _ 5 _ HC1.out, by simpa using hc2⟩
              case measure => simp [intOf]; omega
            · obtain ⟨w5, rfl⟩ : ∃ w5, w5 = wr := ⟨_, rfl⟩
              have hbw4 : Below w.heap.size w w4 := (hbel.trans (c3.mono (by omega))).trans (HK4.out.1.mono hbw)
              have hbw5 : Below w.heap.size w w5 := hbw4.trans (hbi.mono (by omega))
              have HM5 : Hid (HM w5 b (M ++ l)) := (hbi.block b hbr).trans HM4.out
              have HFA5 : Hid (FB (b + 1) w5 u6 M) := by
                refine FB.keep HFA.out (fun j hj => ?_)
                obtain ⟨j1, j2⟩ := FB.ge HFA.out j hj
                exact (hbi.block j j2).trans ((HK4.out.2 j (by omega) (by omega)).trans (c3.block j j2))
              have hcu5 : w5.cell? ⟨gl, ol + k, none⟩ = some (.slice pu l.length cu) := (hbw5.cell (block_lt HU.out)).trans HU.out
              have HU5 : Hid _ := HB.below HBU.out hbw5
              have hb5 : b + 1 ≤ w5.heap.size := row_lt HM5.out
              obtain ⟨ML, hML⟩ : ∃ ML, ML = M ++ l := ⟨_, rfl⟩
              have hMLl : ML.length ≤ 400000 := by rw [hML, List.length_append]; omega
              have HML : Hid _ := hML
              clear hrow hbi HM4 HK4 HO4 HF3 HM3 c3 hML hs3 hs4
              go_wp2_with (at_builtin; refine wpList_appHB rfl (.tmp 54) (.tmp 58) rfl (b + 1) u6 _ M l rfl rfl HFA5.out HU5.out (by omega) hb5 ?_; intro va w6 hf6 hg6; rw [← HML.out] at hf6; obtain ⟨pa, ca, rfl⟩ := hf6.form')
              have hbw6 : Below w.heap.size w w6 := hbw5.grown hg6 hbw5.size (fun j hj => by have := (FB.ge HFA5.out j hj).1; omega)
              have HM6 : Hid (HM w6 b ML) := by
                rw [HML.out]
                exact (hg6.block b hb5 (fun e => by have := (FB.ge HFA5.out b e.symm).1; omega)).trans HM5.out
              have HFA6 : Hid _ := hf6
              have hsumc := fun W hW => sumM_any b ML W (by omega) hW
              have hrsum := fun W hW => refSum_any (.slice pa ML.length ca) ML W (by omega) hW
              have hlenc := fun W hW => lenM_any b ML W hW
              have hneq := fun W => neqs W (shaL ML) (shaL_len _)
              obtain ⟨RL, hRL⟩ : ∃ RL, RL = (shaL ML).map B8 := ⟨_, rfl⟩
              have hR32 : RL.length = 32 := by rw [hRL, List.length_map, shaL_len]
              simp only [← hRL] at hsumc hrsum hneq
              have hiR : (Try.prog.info? 25).map (·.size) = some RL.length := by rw [hR32]; kernel_rfl
              have HRS : Hid ((32 : Nat) = RL.toArray.size) := by show _ = _; rw [List.size_toArray, hR32]
              have HR1 : Hid (RL.toArray.all (·.oneCell') = true) := by show _ = _; rw [hRL]; exact B8_onea _
              have hRs : RL.toArray.size = 32 := HRS.out.symm
              have hu25 := Try.underlying25
              clear hf6 hg6 hcu5 HU5 HFA5 HM5 hRL hR32
              refine (hsumc _ HM6.out).mono ?_
              rintro e w7 ⟨rfl, hb7⟩
              have HM7 : Hid _ := HM.below HM6.out hb7
              have HFA7 : Hid _ := FB.below HFA6.out hb7
              have hbw7 : Below w.heap.size w w7 := hbw6.trans (hb7.mono hbw6.size)
              clear hb7 hsumc HM6 HFA6 hbw6
              go_wp2_with fail
              refine upon_store w7.heap.size RL.toArray Z32 25 (heap_alloc_new _ _) HRS.out HR1.out ?_
              intro w8 HD8 hb8
              have c8 : Below w7.heap.size w7 w8 := ((Below.refl _ _).alloc (Nat.le_refl _) _).trans hb8
              have HM8 : Hid _ := HM.below HM7.out c8
              have HFA8 : Hid _ := FB.below HFA7.out c8
              have hbw8 : Below w.heap.size w w8 := hbw7.trans (c8.mono hbw7.size)
              have HRG : Hid (w8.rangeAt w7.heap.size 0 RL) := rangeAt_row HD8.out
              clear hb8 c8 HM7 HFA7 hbw7 HD8 hRs
              go_wp2
              refine wp_region_held_drew (S := fun w' => Below w8.heap.size w8 w') (by kernel_rfl) (Below.refl _ _).drew (fun hHeld => ?_)
              refine wpAnyH_take (i := 0) (oi := { dst := some 65, op := Go.Op.move (Go.Operand.tmp 11), type := 45, pos := _, after := #[], guard := none }) (v := .int .i64 0) rfl (by kernel_rfl) (by kernel_rfl) (by kernel_rfl) (fun _ _ _ h => h) (Or.inl ⟨by rfl, fun w' hw' => ?_⟩) hHeld ?_
              · first | (go_simp; done) | (go_simp; rfl)
              try simp only [Act.put, List.setIfInBounds_toArray, List.set_cons_zero, List.set_cons_succ]
              refine wpAnyH_ready (rs := [1]) (by kernel_rfl) (by simp) ?_
              refine AllReadyH.cons (o := { dst := some 66, op := Go.Op.call { callee := Go.Callee.value (Go.Operand.func 24), args := #[Go.Operand.tmp 65], argTypes := #[45] }, type := 3, pos := _, after := #[{ on := 0, ground := Go.Ground.data }], guard := none }) rfl (fun K hK => ?_) AllReadyH.nil
              rw [if_pos (by rfl)]
              go_wp2_with fail
              refine (hnum _ _).mono ?_
              rintro e wz ⟨rfl, rfl⟩
              refine hK.out _ _ hHeld (fun _ => ?_)
              clear hK K
              try simp only [Act.put, List.setIfInBounds_toArray, List.set_cons_zero, List.set_cons_succ]
              refine wpAnyH_take (i := 2) (oi := { dst := some 67, op := Go.Op.binOp Go.BinOp.neq 3 (Go.Operand.tmp 66) (Go.Operand.const (Go.Value.int Go.IntKind.i64 0)) 3, type := 4, pos := _, after := #[{ on := 1, ground := Go.Ground.data }], guard := none }) (v := .bool false) rfl (by kernel_rfl) (by kernel_rfl) (by kernel_rfl) (fun _ _ _ h => h) (Or.inl ⟨by rfl, fun w' hw' => ?_⟩) hHeld ?_
              · first | (go_simp; done) | (go_simp; rfl)
              try simp only [Act.put, List.setIfInBounds_toArray, List.set_cons_zero, List.set_cons_succ]
              refine wpAnyH_take (i := 3) (oi := { dst := some 68, op := Go.Op.move (Go.Operand.tmp 67), type := 4, pos := _, after := #[{ on := 2, ground := Go.Ground.data }, { on := 1, ground := Go.Ground.chain }], guard := none }) (v := .bool false) rfl (by kernel_rfl) (by kernel_rfl) (by kernel_rfl) (fun _ _ _ h => h) (Or.inl ⟨by rfl, fun w' hw' => ?_⟩) hHeld ?_
              · first | (go_simp; done) | (go_simp; rfl)
              try simp only [Act.put, List.setIfInBounds_toArray, List.set_cons_zero, List.set_cons_succ]
              refine wpAnyH_take (i := 4) (oi := { dst := some 69, op := Go.Op.load 25 (Go.Operand.tmp 10), type := 25, pos := _, after := #[{ on := 3, ground := Go.Ground.guard }], guard := some (3, false) }) rfl (by kernel_rfl) (by kernel_rfl) (by kernel_rfl) (fun _ _ _ h => h) (yieldsIf_load_mid (by rfl) 25 (.tmp 10) rfl (w7.heap.size) (0) rfl (RL) _ (fun _ h => (rangeAt_below HRG.out h)) hu25 rfl hiR) hHeld ?_
              try simp only [Act.put, List.setIfInBounds_toArray, List.set_cons_zero, List.set_cons_succ]
              refine wpAnyH_take (i := 5) (oi := { dst := some 70, op := Go.Op.move (Go.Operand.tmp 6), type := 22, pos := _, after := #[{ on := 3, ground := Go.Ground.guard }], guard := some (3, false) }) (v := .slice pa ML.length ca) rfl (by kernel_rfl) (by kernel_rfl) (by kernel_rfl) (fun _ _ _ h => h) (Or.inl ⟨by rfl, fun w' hw' => ?_⟩) hHeld ?_
              · first | (go_simp; done) | (go_simp; rfl)
              try simp only [Act.put, List.setIfInBounds_toArray, List.set_cons_zero, List.set_cons_succ]
              refine wpAnyH_ready (rs := [6]) (by kernel_rfl) (by simp) ?_
              refine AllReadyH.cons (o := { dst := some 71, op := Go.Op.call { callee := Go.Callee.value (Go.Operand.func 11), args := #[Go.Operand.tmp 70], argTypes := #[22] }, type := 25, pos := _, after := #[{ on := 5, ground := Go.Ground.data }, { on := 3, ground := Go.Ground.chain }, { on := 3, ground := Go.Ground.guard }], guard := some (3, false) }) rfl (fun K hK => ?_) AllReadyH.nil
              rw [if_pos (by rfl)]
              go_wp2_with fail
              refine (hrsum _ (HB.below (FB.hb HFA8.out) hHeld)).mono ?_
              rintro e w9 ⟨rfl, hb9⟩
              have hHeld9 : Below w8.heap.size w8 w9 := hHeld.trans (hb9.mono hHeld.size)
              clear hb9
              refine hK.out _ _ hHeld9 (fun _ => ?_)
              clear hK K
              try simp only [Act.put, List.setIfInBounds_toArray, List.set_cons_zero, List.set_cons_succ]
              have hHeld := hHeld9
              refine wpAnyH_take (i := 7) (oi := { dst := some 72, op := Go.Op.binOp Go.BinOp.neq 25 (Go.Operand.tmp 69) (Go.Operand.tmp 71) 25, type := 4, pos := _, after := #[{ on := 4, ground := Go.Ground.data }, { on := 6, ground := Go.Ground.data }, { on := 3, ground := Go.Ground.guard }], guard := some (3, false) }) (v := .bool false) rfl (by kernel_rfl) (by kernel_rfl) (by kernel_rfl) (fun _ _ _ h => h) (Or.inl ⟨by rfl, fun w' hw' => ?_⟩) hHeld ?_
              · first | (go_simp; done) | (go_simp; rfl)
              try simp only [Act.put, List.setIfInBounds_toArray, List.set_cons_zero, List.set_cons_succ]
              refine wpAnyH_take (i := 8) (oi := { dst := some 73, op := Go.Op.pick (Go.Operand.tmp 68) (Go.Operand.const (Go.Value.bool true)) (Go.Operand.tmp 72), type := 4, pos := _, after := #[{ on := 3, ground := Go.Ground.data }, { on := 7, ground := Go.Ground.data }], guard := none }) (v := .bool false) rfl (by kernel_rfl) (by kernel_rfl) (by kernel_rfl) (fun _ _ _ h => h) (Or.inl ⟨by rfl, fun w' hw' => ?_⟩) hHeld ?_
              · first | (go_simp; done) | (go_simp; rfl)
              try simp only [Act.put, List.setIfInBounds_toArray, List.set_cons_zero, List.set_cons_succ]
              refine wpAnyH_take (i := 9) (oi := { dst := some 74, op := Go.Op.move (Go.Operand.tmp 73), type := 4, pos := _, after := #[{ on := 8, ground := Go.Ground.data }, { on := 6, ground := Go.Ground.chain }], guard := none }) (v := .bool false) rfl (by kernel_rfl) (by kernel_rfl) (by kernel_rfl) (fun _ _ _ h => h) (Or.inl ⟨by rfl, fun w' hw' => ?_⟩) hHeld ?_
              · first | (go_simp; done) | (go_simp; rfl)
              try simp only [Act.put, List.setIfInBounds_toArray, List.set_cons_zero, List.set_cons_succ]
              refine wpAnyH_take (i := 10) (oi := { dst := some 75, op := Go.Op.move (Go.Operand.tmp 5), type := 42, pos := _, after := #[{ on := 9, ground := Go.Ground.guard }], guard := some (9, false) }) (v := .pointer (some ⟨b, 0, none⟩)) rfl (by kernel_rfl) (by kernel_rfl) (by kernel_rfl) (fun _ _ _ h => h) (Or.inl ⟨by rfl, fun w' hw' => ?_⟩) hHeld ?_
              · first | (go_simp; done) | (go_simp; rfl)
              try simp only [Act.put, List.setIfInBounds_toArray, List.set_cons_zero, List.set_cons_succ]
              refine wpAnyH_take (i := 12) (oi := { dst := some 77, op := Go.Op.move (Go.Operand.tmp 6), type := 22, pos := _, after := #[{ on := 9, ground := Go.Ground.guard }], guard := some (9, false) }) (v := .slice pa ML.length ca) rfl (by kernel_rfl) (by kernel_rfl) (by kernel_rfl) (fun _ _ _ h => h) (Or.inl ⟨by rfl, fun w' hw' => ?_⟩) hHeld ?_
              · first | (go_simp; done) | (go_simp; rfl)
              try simp only [Act.put, List.setIfInBounds_toArray, List.set_cons_zero, List.set_cons_succ]
              refine wpAnyH_take (i := 13) (oi := { dst := some 78, op := Go.Op.call { callee := Go.Callee.builtin Go.Builtin.len, args := #[Go.Operand.tmp 77], argTypes := #[22] }, type := 3, pos := _, after := #[{ on := 12, ground := Go.Ground.data }, { on := 9, ground := Go.Ground.guard }], guard := some (9, false) }) (v := .int .i64 (ML.length : Int)) rfl (by kernel_rfl) (by kernel_rfl) (by kernel_rfl) (fun _ _ _ h => h) (Or.inl ⟨by rfl, fun w' hw' => ?_⟩) hHeld ?_
              · first | (go_simp; done) | (go_simp; rfl)
              try simp only [Act.put, List.setIfInBounds_toArray, List.set_cons_zero, List.set_cons_succ]
              refine wpAnyH_ready (rs := [11]) (by kernel_rfl) (by simp) ?_
              refine AllReadyH.cons (o := { dst := some 76, op := Go.Op.call { callee := Go.Callee.value (Go.Operand.func 27), args := #[Go.Operand.tmp 75], argTypes := #[42] }, type := 3, pos := _, after := #[{ on := 10, ground := Go.Ground.data }, { on := 9, ground := Go.Ground.chain }, { on := 9, ground := Go.Ground.guard }], guard := some (9, false) }) rfl (fun K hK => ?_) AllReadyH.nil
              rw [if_pos (by rfl)]
              go_wp2_with fail
              refine (hlenc _ (HM.below HM8.out hHeld9)).mono ?_
              rintro e wz ⟨rfl, rfl⟩
              refine hK.out _ _ hHeld9 (fun _ => ?_)
              clear hK K
              try simp only [Act.put, List.setIfInBounds_toArray, List.set_cons_zero, List.set_cons_succ]
              refine wpAnyH_take (i := 14) (oi := { dst := some 79, op := Go.Op.binOp Go.BinOp.neq 3 (Go.Operand.tmp 76) (Go.Operand.tmp 78) 3, type := 4, pos := _, after := #[{ on := 11, ground := Go.Ground.data }, { on := 13, ground := Go.Ground.data }, { on := 9, ground := Go.Ground.guard }], guard := some (9, false) }) (v := .bool false) rfl (by kernel_rfl) (by kernel_rfl) (by kernel_rfl) (fun _ _ _ h => h) (Or.inl ⟨by rfl, fun w' hw' => ?_⟩) hHeld ?_
              · first | (go_simp; done) | (go_simp; rfl)
              try simp only [Act.put, List.setIfInBounds_toArray, List.set_cons_zero, List.set_cons_succ]
              refine wpAnyH_take (i := 15) (oi := { dst := some 80, op := Go.Op.pick (Go.Operand.tmp 74) (Go.Operand.const (Go.Value.bool true)) (Go.Operand.tmp 79), type := 4, pos := _, after := #[{ on := 9, ground := Go.Ground.data }, { on := 14, ground := Go.Ground.data }], guard := none }) (v := .bool false) rfl (by kernel_rfl) (by kernel_rfl) (by kernel_rfl) (fun _ _ _ h => h) (Or.inl ⟨by rfl, fun w' hw' => ?_⟩) hHeld ?_
              · first | (go_simp; done) | (go_simp; rfl)
              try simp only [Act.put, List.setIfInBounds_toArray, List.set_cons_zero, List.set_cons_succ]
              refine wpAnyH_done (by kernel_rfl) ?_ _
              have HFIN : Hid _ := hHeld9
              clear hHeld hHeld9
              go_wp2
              go_roundw
              case rel =>
                refine ⟨k + 1, by omega, by go_num, ?_, ?_, hbw8.trans (HFIN.out.mono hbw8.size)⟩
                · rw [HFT.out, ← HML.out]; exact FB.below HFA8.out HFIN.out
                · rw [HFT.out, ← HML.out]; exact HM.below HM8.out HFIN.out
              case measure => simp [intOf]; omega
        · generalize (ls.take k).flatten = M at *
          obtain ⟨pa, ca, rfl⟩ := hfa.form'
          have HFA : Hid _ := hfa
          have HMR : Hid _ := hmr
          clear hfa hmr
          go_wp2_with fail
          refine (copyM_any b M wr0 HMR.out).mono ?_
          rintro e w3 ⟨c, rfl, hmc, hc, hb3⟩
          have hbc : b ≠ c := by omega
          have hs3 := hb3.size
          have HMC3 : Hid _ := hmc
          have HMB3 : Hid _ := HM.below HMR.out hb3
          have HFA3 : Hid _ := FB.below HFA.out hb3
          have hbw3 : Below w.heap.size w w3 := hbel.trans (hb3.mono hbel.size)
          have HMO3 : Hid _ := HB.below HMO.out hbw3
          have hbs3 := row_lt HMB3.out
          clear hmc hb3
          go_wp2_with fail
          refine (writeM_any c M (.slice pm mo.length cm) mo w3 (by omega) HMC3.out HMO3.out).mono ?_
          rintro e w4 ⟨rfl, hm4, hkb4⟩
          obtain ⟨MM, hMM⟩ : ∃ MM, MM = M ++ mo := ⟨_, rfl⟩
          have hMMl : MM.length ≤ 400000 := by rw [hMM, List.length_append]; omega
          rw [← hMM] at hm4
          have HMM : Hid _ := hMM
          have HMC4 : Hid _ := hm4
          have HMB4 : Hid (HM w4 b M) := (hkb4.2 b hbs3 hbc).trans HMB3.out
          have HFA4 : Hid (FB (b + 1) w4 (.slice pa M.length ca) M) := FB.keep HFA3.out (fun j hj => hkb4.2 j (FB.ge HFA3.out j hj).2 (by have := (FB.ge HFA.out j hj).2; omega))
          have hbw4 : Below w.heap.size w w4 := hbw3.trans (hkb4.1.mono (by omega))
          clear hm4 hkb4 hMM HMC3 HMB3 HFA3 HMO3 hbw3 HFA HMR
          go_wp2_with fail
          refine (hnum _ _).mono ?_
          rintro e wy ⟨rfl, rfl⟩
          have hsc := fun W hW => sumM_any c MM W (by omega) hW
          have hsb := fun W hW => sumM_any b M W (by omega) hW
          have hr1 := fun v W hW => refSum_any v MM W (by omega) hW
          have hr2 := fun W hW => refSum_any (.slice pa M.length ca) M W (by omega) hW
          have he1 := fun W => eqls W (shaL MM) (shaL_len _)
          have he2 := fun W => eqls W (shaL M) (shaL_len _)
          obtain ⟨R1, hR1⟩ : ∃ R1, R1 = (shaL MM).map B8 := ⟨_, rfl⟩
          obtain ⟨R2, hR2⟩ : ∃ R2, R2 = (shaL M).map B8 := ⟨_, rfl⟩
          have hR132 : R1.length = 32 := by rw [hR1, List.length_map, shaL_len]
          have hR232 : R2.length = 32 := by rw [hR2, List.length_map, shaL_len]
          simp only [← hR1] at hsc hr1 he1
          simp only [← hR2] at hsb hr2 he2
          have hi1 : (Try.prog.info? 25).map (·.size) = some R1.length := by rw [hR132]; kernel_rfl
          have hi2 : (Try.prog.info? 25).map (·.size) = some R2.length := by rw [hR232]; kernel_rfl
          have HS1 : Hid ((32 : Nat) = R1.toArray.size) := by show _ = _; rw [List.size_toArray, hR132]
          have HS2 : Hid ((32 : Nat) = R2.toArray.size) := by show _ = _; rw [List.size_toArray, hR232]
          have HA1 : Hid (R1.toArray.all (·.oneCell') = true) := by show _ = _; rw [hR1]; exact B8_onea _
          have HA2 : Hid (R2.toArray.all (·.oneCell') = true) := by show _ = _; rw [hR2]; exact B8_onea _
          have hR1s : R1.toArray.size = 32 := HS1.out.symm
          have hR2s : R2.toArray.size = 32 := HS2.out.symm
          have hu25 := Try.underlying25
          clear hR1 hR2 hR132 hR232
          go_wp2_with fail
          refine (hsc _ HMC4.out).mono ?_
          rintro e w5 ⟨rfl, hb5⟩
          have HMB5 : Hid _ := HM.below HMB4.out hb5
          have HFA5 : Hid _ := FB.below HFA4.out hb5
          have hbw5 : Below w.heap.size w w5 := hbw4.trans (hb5.mono hbw4.size)
          clear hb5 hsc HMC4 HMB4 HFA4 hbw4
          go_wp2_with fail
          refine upon_store w5.heap.size R1.toArray Z32 25 (heap_alloc_new _ _) HS1.out HA1.out ?_
          intro w6 HD6 hb6
          have c6 : Below w5.heap.size w5 w6 := ((Below.refl _ _).alloc (Nat.le_refl _) _).trans hb6
          have HMB6 : Hid _ := HM.below HMB5.out c6
          have HFA6 : Hid _ := FB.below HFA5.out c6
          have hbw6 : Below w.heap.size w w6 := hbw5.trans (c6.mono hbw5.size)
          clear hb6 c6 HMB5 HFA5 hbw5
          go_wp2_with fail
          refine (hsb _ HMB6.out).mono ?_
          rintro e w7 ⟨rfl, hb7⟩
          have HFA7 : Hid _ := FB.below HFA6.out hb7
          have HD7 : Hid _ := (hb7.block _ (row_lt HD6.out)).trans HD6.out
          have hbw7 : Below w.heap.size w w7 := hbw6.trans (hb7.mono hbw6.size)
          clear hb7 hsb HMB6 HFA6 hbw6 HD6
          go_wp2_with fail
          refine upon_store w7.heap.size R2.toArray Z32 25 (heap_alloc_new _ _) HS2.out HA2.out ?_
          intro w8 HE8 hb8
          have c8 : Below w7.heap.size w7 w8 := ((Below.refl _ _).alloc (Nat.le_refl _) _).trans hb8
          have HFA8 : Hid _ := FB.below HFA7.out c8
          have hbw8 : Below w.heap.size w w8 := hbw7.trans (c8.mono hbw7.size)
          have HRG1 : Hid (w8.rangeAt w5.heap.size 0 R1) := rangeAt_row ((c8.block _ (row_lt HD7.out)).trans HD7.out)
          have HRG2 : Hid (w8.rangeAt w7.heap.size 0 R2) := rangeAt_row HE8.out
          have HMO8 : Hid _ := HB.below HMO.out hbw8
          clear hb8 c8 HFA7 hbw7 HD7 HE8 hR1s hR2s
          go_wp2
          refine wp_region_held_drew (S := fun w' => Below w8.heap.size w8 w') (by kernel_rfl) (Below.refl _ _).drew (fun hHeld => ?_)
          refine wpAnyH_take (i := 0) (oi := { dst := some 102, op := Go.Op.move (Go.Operand.tmp 14), type := 45, pos := _, after := #[], guard := none }) (v := .int .i64 0) rfl (by kernel_rfl) (by kernel_rfl) (by kernel_rfl) (fun _ _ _ h => h) (Or.inl ⟨by rfl, fun w' hw' => ?_⟩) hHeld ?_
          · first | (go_simp; done) | (go_simp; rfl)
          try simp only [Act.put, List.setIfInBounds_toArray, List.set_cons_zero, List.set_cons_succ]
          refine wpAnyH_take (i := 2) (oi := { dst := some 104, op := Go.Op.move (Go.Operand.tmp 16), type := 45, pos := _, after := #[], guard := none }) (v := .int .i64 0) rfl (by kernel_rfl) (by kernel_rfl) (by kernel_rfl) (fun _ _ _ h => h) (Or.inl ⟨by rfl, fun w' hw' => ?_⟩) hHeld ?_
          · first | (go_simp; done) | (go_simp; rfl)
          try simp only [Act.put, List.setIfInBounds_toArray, List.set_cons_zero, List.set_cons_succ]
          refine wpAnyH_ready (rs := [1]) (by kernel_rfl) (by simp) ?_
          refine AllReadyH.cons (o := { dst := some 103, op := Go.Op.call { callee := Go.Callee.value (Go.Operand.func 24), args := #[Go.Operand.tmp 102], argTypes := #[45] }, type := 3, pos := _, after := #[{ on := 0, ground := Go.Ground.data }], guard := none }) rfl (fun K hK => ?_) AllReadyH.nil
          rw [if_pos (by rfl)]
          go_wp2_with fail
          refine (hnum _ _).mono ?_
          rintro e wz ⟨rfl, rfl⟩
          refine hK.out _ _ hHeld (fun _ => ?_)
          clear hK K
          try simp only [Act.put, List.setIfInBounds_toArray, List.set_cons_zero, List.set_cons_succ]
          refine wpAnyH_ready (rs := [3]) (by kernel_rfl) (by simp) ?_
          refine AllReadyH.cons (o := { dst := some 105, op := Go.Op.call { callee := Go.Callee.value (Go.Operand.func 24), args := #[Go.Operand.tmp 104], argTypes := #[45] }, type := 3, pos := _, after := #[{ on := 2, ground := Go.Ground.data }, { on := 1, ground := Go.Ground.chain }], guard := none }) rfl (fun K hK => ?_) AllReadyH.nil
          rw [if_pos (by rfl)]
          go_wp2_with fail
          refine (hnum _ _).mono ?_
          rintro e wz ⟨rfl, rfl⟩
          refine hK.out _ _ hHeld (fun _ => ?_)
          clear hK K
          try simp only [Act.put, List.setIfInBounds_toArray, List.set_cons_zero, List.set_cons_succ]
          refine wpAnyH_take (i := 4) (oi := { dst := some 106, op := Go.Op.binOp Go.BinOp.add 3 (Go.Operand.tmp 103) (Go.Operand.tmp 105) 3, type := 3, pos := _, after := #[{ on := 1, ground := Go.Ground.data }, { on := 3, ground := Go.Ground.data }], guard := none }) (v := .int .i64 0) rfl (by kernel_rfl) (by kernel_rfl) (by kernel_rfl) (fun _ _ _ h => h) (Or.inl ⟨by rfl, fun w' hw' => ?_⟩) hHeld ?_
          · first | (go_simp; done) | (go_simp; rfl)
          try simp only [Act.put, List.setIfInBounds_toArray, List.set_cons_zero, List.set_cons_succ]
          refine wpAnyH_take (i := 5) (oi := { dst := some 107, op := Go.Op.binOp Go.BinOp.eql 3 (Go.Operand.tmp 106) (Go.Operand.const (Go.Value.int Go.IntKind.i64 0)) 3, type := 4, pos := _, after := #[{ on := 4, ground := Go.Ground.data }], guard := none }) (v := .bool true) rfl (by kernel_rfl) (by kernel_rfl) (by kernel_rfl) (fun _ _ _ h => h) (Or.inl ⟨by rfl, fun w' hw' => ?_⟩) hHeld ?_
          · first | (go_simp; done) | (go_simp; rfl)
          try simp only [Act.put, List.setIfInBounds_toArray, List.set_cons_zero, List.set_cons_succ]
          refine wpAnyH_take (i := 6) (oi := { dst := some 108, op := Go.Op.move (Go.Operand.tmp 107), type := 4, pos := _, after := #[{ on := 5, ground := Go.Ground.data }, { on := 3, ground := Go.Ground.chain }], guard := none }) (v := .bool true) rfl (by kernel_rfl) (by kernel_rfl) (by kernel_rfl) (fun _ _ _ h => h) (Or.inl ⟨by rfl, fun w' hw' => ?_⟩) hHeld ?_
          · first | (go_simp; done) | (go_simp; rfl)
          try simp only [Act.put, List.setIfInBounds_toArray, List.set_cons_zero, List.set_cons_succ]
          refine wpAnyH_take (i := 7) (oi := { dst := some 109, op := Go.Op.load 25 (Go.Operand.tmp 13), type := 25, pos := _, after := #[{ on := 6, ground := Go.Ground.guard }], guard := some (6, true) }) rfl (by kernel_rfl) (by kernel_rfl) (by kernel_rfl) (fun _ _ _ h => h) (yieldsIf_load_mid (by rfl) 25 (.tmp 13) rfl (w5.heap.size) (0) rfl (R1) _ (fun _ h => (rangeAt_below HRG1.out h)) hu25 rfl hi1) hHeld ?_
          try simp only [Act.put, List.setIfInBounds_toArray, List.set_cons_zero, List.set_cons_succ]
          refine wpAnyH_take (i := 8) (oi := { dst := some 110, op := Go.Op.move (Go.Operand.tmp 6), type := 22, pos := _, after := #[{ on := 6, ground := Go.Ground.guard }], guard := some (6, true) }) (v := .slice pa M.length ca) rfl (by kernel_rfl) (by kernel_rfl) (by kernel_rfl) (fun _ _ _ h => h) (Or.inl ⟨by rfl, fun w' hw' => ?_⟩) hHeld ?_
          · first | (go_simp; done) | (go_simp; rfl)
          try simp only [Act.put, List.setIfInBounds_toArray, List.set_cons_zero, List.set_cons_succ]
          refine wpAnyH_take (i := 10) (oi := { dst := some 112, op := Go.Op.move (Go.Operand.tmp 1), type := 22, pos := _, after := #[{ on := 6, ground := Go.Ground.guard }], guard := some (6, true) }) (v := .slice pm mo.length cm) rfl (by kernel_rfl) (by kernel_rfl) (by kernel_rfl) (fun _ _ _ h => h) (Or.inl ⟨by rfl, fun w' hw' => ?_⟩) hHeld ?_
          · first | (go_simp; done) | (go_simp; rfl)
          try simp only [Act.put, List.setIfInBounds_toArray, List.set_cons_zero, List.set_cons_succ]
          refine wpAnyH_ready (rs := [9]) (by kernel_rfl) (by simp) ?_
          refine AllReadyH.cons (o := { dst := some 111, op := Go.Op.call { callee := Go.Callee.builtin Go.Builtin.append, args := #[Go.Operand.const (Go.Value.slice none 0 0), Go.Operand.tmp 110], argTypes := #[22, 22] }, type := 22, pos := _, after := #[{ on := 8, ground := Go.Ground.data }, { on := 6, ground := Go.Ground.chain }, { on := 6, ground := Go.Ground.guard }], guard := some (6, true) }) rfl (fun K hK => ?_) AllReadyH.nil
          rw [if_pos (by rfl)]
          refine wp_appHB (.const (.slice none 0 0)) (.tmp 110) rfl w8.heap.size (.slice none 0 0) _ [] M rfl rfl (World.ownsRow_nil _ _ _ _) (HB.below (FB.hb HFA8.out) hHeld) (by simp; omega) hHeld.size ?_
          intro v9 w9 hf9 hg9
          have hHeld9 : Below w8.heap.size w8 w9 := hHeld.grown hg9 hHeld.size (fun j hj => by cases hj)
          have HF9 : Hid _ := hf9
          clear hf9 hg9
          refine hK.out _ _ hHeld9 (fun _ => ?_)
          clear hK K
          try simp only [Act.put, List.setIfInBounds_toArray, List.set_cons_zero, List.set_cons_succ]
          refine wpAnyH_ready (rs := [11]) (by kernel_rfl) (by simp) ?_
          refine AllReadyH.cons (o := { dst := some 113, op := Go.Op.call { callee := Go.Callee.builtin Go.Builtin.append, args := #[Go.Operand.tmp 111, Go.Operand.tmp 112], argTypes := #[22, 22] }, type := 22, pos := _, after := #[{ on := 9, ground := Go.Ground.data }, { on := 10, ground := Go.Ground.data }, { on := 9, ground := Go.Ground.chain }, { on := 6, ground := Go.Ground.guard }], guard := some (6, true) }) rfl (fun K hK => ?_) AllReadyH.nil
          rw [if_pos (by rfl)]
          refine wp_appHB (.tmp 111) (.tmp 112) rfl w8.heap.size v9 _ ([] ++ M) mo rfl rfl HF9.out (HB.below HMO8.out hHeld9) (by simp; omega) hHeld9.size ?_
          intro v10 w10 hf10 hg10
          have hHeld10 : Below w8.heap.size w8 w10 := hHeld9.grown hg10 hHeld9.size (fun j hj => (FB.ge HF9.out j hj).1)
          have HF10 : Hid (HB w10 v10 MM) := by
            rw [HMM.out]
            have := FB.hb hf10
            rw [List.nil_append] at this
            exact this
          clear hf10 hg10
          refine hK.out _ _ hHeld10 (fun _ => ?_)
          clear hK K
          try simp only [Act.put, List.setIfInBounds_toArray, List.set_cons_zero, List.set_cons_succ]
          refine wpAnyH_ready (rs := [12]) (by kernel_rfl) (by simp) ?_
          refine AllReadyH.cons (o := { dst := some 114, op := Go.Op.call { callee := Go.Callee.value (Go.Operand.func 11), args := #[Go.Operand.tmp 113], argTypes := #[22] }, type := 25, pos := _, after := #[{ on := 11, ground := Go.Ground.data }, { on := 11, ground := Go.Ground.chain }, { on := 6, ground := Go.Ground.guard }], guard := some (6, true) }) rfl (fun K hK => ?_) AllReadyH.nil
          rw [if_pos (by rfl)]
          go_wp2_with fail
          refine (hr1 _ _ HF10.out).mono ?_
          rintro e w11 ⟨rfl, hb11⟩
          have hHeld11 : Below w8.heap.size w8 w11 := hHeld10.trans (hb11.mono hHeld10.size)
          clear hb11
          refine hK.out _ _ hHeld11 (fun _ => ?_)
          clear hK K
          try simp only [Act.put, List.setIfInBounds_toArray, List.set_cons_zero, List.set_cons_succ]
          have hHeld := hHeld11
          refine wpAnyH_take (i := 13) (oi := { dst := some 115, op := Go.Op.binOp Go.BinOp.eql 25 (Go.Operand.tmp 109) (Go.Operand.tmp 114) 25, type := 4, pos := _, after := #[{ on := 7, ground := Go.Ground.data }, { on := 12, ground := Go.Ground.data }, { on := 6, ground := Go.Ground.guard }], guard := some (6, true) }) (v := .bool true) rfl (by kernel_rfl) (by kernel_rfl) (by kernel_rfl) (fun _ _ _ h => h) (Or.inl ⟨by rfl, fun w' hw' => ?_⟩) hHeld ?_
          · first | (go_simp; done) | (go_simp; rfl)
          try simp only [Act.put, List.setIfInBounds_toArray, List.set_cons_zero, List.set_cons_succ]
          refine wpAnyH_take (i := 14) (oi := { dst := some 116, op := Go.Op.pick (Go.Operand.tmp 108) (Go.Operand.tmp 115) (Go.Operand.const (Go.Value.bool false)), type := 4, pos := _, after := #[{ on := 6, ground := Go.Ground.data }, { on := 13, ground := Go.Ground.data }], guard := none }) (v := .bool true) rfl (by kernel_rfl) (by kernel_rfl) (by kernel_rfl) (fun _ _ _ h => h) (Or.inl ⟨by rfl, fun w' hw' => ?_⟩) hHeld ?_
          · first | (go_simp; done) | (go_simp; rfl)
          try simp only [Act.put, List.setIfInBounds_toArray, List.set_cons_zero, List.set_cons_succ]
          refine wpAnyH_take (i := 15) (oi := { dst := some 117, op := Go.Op.move (Go.Operand.tmp 116), type := 4, pos := _, after := #[{ on := 14, ground := Go.Ground.data }, { on := 12, ground := Go.Ground.chain }], guard := none }) (v := .bool true) rfl (by kernel_rfl) (by kernel_rfl) (by kernel_rfl) (fun _ _ _ h => h) (Or.inl ⟨by rfl, fun w' hw' => ?_⟩) hHeld ?_
          · first | (go_simp; done) | (go_simp; rfl)
          try simp only [Act.put, List.setIfInBounds_toArray, List.set_cons_zero, List.set_cons_succ]
          refine wpAnyH_take (i := 16) (oi := { dst := some 118, op := Go.Op.load 25 (Go.Operand.tmp 15), type := 25, pos := _, after := #[{ on := 15, ground := Go.Ground.guard }], guard := some (15, true) }) rfl (by kernel_rfl) (by kernel_rfl) (by kernel_rfl) (fun _ _ _ h => h) (yieldsIf_load_mid (by rfl) 25 (.tmp 15) rfl (w7.heap.size) (0) rfl (R2) _ (fun _ h => (rangeAt_below HRG2.out h)) hu25 rfl hi2) hHeld ?_
          try simp only [Act.put, List.setIfInBounds_toArray, List.set_cons_zero, List.set_cons_succ]
          refine wpAnyH_take (i := 17) (oi := { dst := some 119, op := Go.Op.move (Go.Operand.tmp 6), type := 22, pos := _, after := #[{ on := 15, ground := Go.Ground.guard }], guard := some (15, true) }) (v := .slice pa M.length ca) rfl (by kernel_rfl) (by kernel_rfl) (by kernel_rfl) (fun _ _ _ h => h) (Or.inl ⟨by rfl, fun w' hw' => ?_⟩) hHeld ?_
          · first | (go_simp; done) | (go_simp; rfl)
          try simp only [Act.put, List.setIfInBounds_toArray, List.set_cons_zero, List.set_cons_succ]
          refine wpAnyH_ready (rs := [18]) (by kernel_rfl) (by simp) ?_
          refine AllReadyH.cons (o := { dst := some 120, op := Go.Op.call { callee := Go.Callee.value (Go.Operand.func 11), args := #[Go.Operand.tmp 119], argTypes := #[22] }, type := 25, pos := _, after := #[{ on := 17, ground := Go.Ground.data }, { on := 15, ground := Go.Ground.chain }, { on := 15, ground := Go.Ground.guard }], guard := some (15, true) }) rfl (fun K hK => ?_) AllReadyH.nil
          rw [if_pos (by rfl)]
          go_wp2_with fail
          refine (hr2 _ (HB.below (FB.hb HFA8.out) hHeld11)).mono ?_
          rintro e w12 ⟨rfl, hb12⟩
          have hHeld12 : Below w8.heap.size w8 w12 := hHeld11.trans (hb12.mono hHeld11.size)
          clear hb12
          refine hK.out _ _ hHeld12 (fun _ => ?_)
          clear hK K
          try simp only [Act.put, List.setIfInBounds_toArray, List.set_cons_zero, List.set_cons_succ]
          have hHeld := hHeld12
          refine wpAnyH_take (i := 19) (oi := { dst := some 121, op := Go.Op.binOp Go.BinOp.eql 25 (Go.Operand.tmp 118) (Go.Operand.tmp 120) 25, type := 4, pos := _, after := #[{ on := 16, ground := Go.Ground.data }, { on := 18, ground := Go.Ground.data }, { on := 15, ground := Go.Ground.guard }], guard := some (15, true) }) (v := .bool true) rfl (by kernel_rfl) (by kernel_rfl) (by kernel_rfl) (fun _ _ _ h => h) (Or.inl ⟨by rfl, fun w' hw' => ?_⟩) hHeld ?_
          · first | (go_simp; done) | (go_simp; rfl)
          try simp only [Act.put, List.setIfInBounds_toArray, List.set_cons_zero, List.set_cons_succ]
          refine wpAnyH_take (i := 20) (oi := { dst := some 122, op := Go.Op.pick (Go.Operand.tmp 117) (Go.Operand.tmp 121) (Go.Operand.const (Go.Value.bool false)), type := 4, pos := _, after := #[{ on := 15, ground := Go.Ground.data }, { on := 19, ground := Go.Ground.data }], guard := none }) (v := .bool true) rfl (by kernel_rfl) (by kernel_rfl) (by kernel_rfl) (fun _ _ _ h => h) (Or.inl ⟨by rfl, fun w' hw' => ?_⟩) hHeld ?_
          · first | (go_simp; done) | (go_simp; rfl)
          try simp only [Act.put, List.setIfInBounds_toArray, List.set_cons_zero, List.set_cons_succ]
          refine wpAnyH_take (i := 21) (oi := { dst := some 4, op := Go.Op.assign (Go.Operand.tmp 122), type := 4, pos := _, after := #[{ on := 20, ground := Go.Ground.data }, { on := 18, ground := Go.Ground.chain }, { on := 0, ground := Go.Ground.phase }, { on := 1, ground := Go.Ground.phase }, { on := 2, ground := Go.Ground.phase }, { on := 3, ground := Go.Ground.phase }, { on := 4, ground := Go.Ground.phase }, { on := 5, ground := Go.Ground.phase }, { on := 6, ground := Go.Ground.phase }, { on := 7, ground := Go.Ground.phase }, { on := 8, ground := Go.Ground.phase }, { on := 9, ground := Go.Ground.phase }, { on := 10, ground := Go.Ground.phase }, { on := 11, ground := Go.Ground.phase }, { on := 12, ground := Go.Ground.phase }, { on := 13, ground := Go.Ground.phase }, { on := 14, ground := Go.Ground.phase }, { on := 15, ground := Go.Ground.phase }, { on := 16, ground := Go.Ground.phase }, { on := 17, ground := Go.Ground.phase }, { on := 18, ground := Go.Ground.phase }, { on := 19, ground := Go.Ground.phase }, { on := 20, ground := Go.Ground.phase }], guard := none }) (v := .bool true) rfl (by kernel_rfl) (by kernel_rfl) (by kernel_rfl) (fun _ _ _ h => h) (Or.inl ⟨by rfl, fun w' hw' => ?_⟩) hHeld ?_
          · first | (go_simp; done) | (go_simp; rfl)
          try simp only [Act.put, List.setIfInBounds_toArray, List.set_cons_zero, List.set_cons_succ]
          refine wpAnyH_done (by kernel_rfl) ?_ _
          have HFIN : Hid _ := hHeld12
          clear hHeld hHeld9 hHeld10 hHeld11 hHeld12
          go_wp2
          go_ret
          exact ⟨rfl, hbw8.trans (HFIN.out.mono hbw8.size)⟩
    · have hm6' : (600 : Int) < (mo.length : Int) := by omega
      go_wp2
      go_ret
      exact ⟨rfl, hb1⟩

set_option maxRecDepth 100000 in
theorem lifted (os : Os) (started : os.Started) (H : Type) (enc : TypeId × Value → H) :
    ReturnsInHanded {} Try.checked os 6 .any (Rows.shaPartsSpec.pre6 enc Try.prog Try.f6 Rows.shaPartsRow.domain false) (Rows.shaPartsSpec.post enc Try.prog Try.f6 false true false false) := by
  refine returnsInHanded_of_change (C := Try.checked) own started (by kernel_rfl) Try.func6
    (ChangeSpec.witness6 (enc := enc) (C := Try.checked) false ⟨#[], #[.slice none 0 0, .slice none 0 0], []⟩ 8 (by kernel_rfl) (by kernel_rfl) (by kernel_rfl) (by kernel_rfl)) ?_
  intro W base args ds gs before hval0 hW hcnd _
  have hval : ∀ (j : Nat) t v, Try.f6.params[j]? = some t → args[j]? = some v → Value.okWide Try.prog W .any base t v := hval0
  have hW' := hW
  obtain ⟨p, q, hA0, hV, rfl, hfz, hnd⟩ := hW
  have hA : DataW.TrodAll enc Try.prog W 0 (fun _ => true) true Try.f6.params.toList args.toList ds p := hA0
  rw [Try.params6] at hA hval
  obtain ⟨v0, vs0, d0, ds0, p0, q0, hargs, rfl, rfl, h0, r0⟩ := trodAll_cons hA
  obtain ⟨v1, vs1, d1, ds1, p1, q1, rfl, rfl, rfl, h1, r1⟩ := trodAll_cons r0
  obtain ⟨rfl, rfl, rfl⟩ := trodAll_nil r1
  obtain rfl : args = #[v0, v1] := by cases args; simp_all
  obtain ⟨rfl, rfl⟩ := trodVars_none hV
  obtain ⟨a0, len0, cap0, rfl⟩ := okWide_slice Try.underlying40 (hval 0 40 v0 rfl rfl)
  have k0 := h0
  have lt0 : ∀ x ∈ p0, x.block < W.heap.size := by obtain ⟨m, hm⟩ := k0; exact DataW.trod_lt m _ _ _ hm
  obtain ⟨l0, hl0, hm0, hn0⟩ : ∃ ls, HL W (.slice a0 len0 cap0) ls ∧ ls.length ≤ 9223372036854775807 ∧ ∀ l ∈ ls, l.length ≤ 9223372036854775807 := by obtain ⟨fuel, hf⟩ := h0; exact open_lists hf
  obtain ⟨a1, len1, cap1, rfl⟩ := okWide_slice Try.underlying22 (hval 1 22 v1 rfl rfl)
  have k1 := h1
  have lt1 : ∀ x ∈ p1, x.block < W.heap.size := by obtain ⟨m, hm⟩ := k1; exact DataW.trod_lt m _ _ _ hm
  obtain ⟨l1, hl1, hm1⟩ : ∃ l, HB W (.slice a1 len1 cap1) l ∧ l.length ≤ 9223372036854775807 := by obtain ⟨fuel, hf⟩ := h1; exact open_bytes hf
  clear hA0 hval0
  refine (walk _ l0 _ l1 W hm0 hn0 hl0 hm1 hl1).mono fun e W' ⟨he, bel⟩ => ?_
  subst he
  exact ⟨_, rfl, _, _, _, [], _, [], hW', trodAll_mk1 (shut_bool Try.underlying4 _), (trodAll_cons_mk (Below.trod laidOut (by kernel_rfl) (of_decide_eq_true (by kernel_rfl)) k0 bel lt0) (trodAll_cons_mk (Below.trod laidOut (by kernel_rfl) (of_decide_eq_true (by kernel_rfl)) k1 bel lt1) trodAll_mk0)), rfl, bel.frame _, fun h => by cases h⟩

theorem over : Rows.shaPartsRow.holds Try.pinned (OpenSpec.ofChange Rows.shaPartsSpec) :=
  OpenClaim.holds_of_wide 6 Try.f6 rfl rfl rfl rfl rfl rfl rfl ⟨rfl, rfl, rfl, rfl, rfl⟩ rfl rfl rfl rfl rfl (by kernel_rfl) Try.func6 (by kernel_rfl)
    (of_decide_eq_true (by kernel_rfl)) (by unfold Func.isWrapper; first | (rw [if_pos (by decide +kernel)]; kernel_rfl) | (rw [if_neg (by decide +kernel)]; exact ⟨rfl, rfl⟩))
    (fun os started H enc _ => lifted os started H enc)

end Go.Proofs.Ytojafgilpnnbiaa.shaParts
namespace Go.Proofs.Ytojafgilpnnbiaa
theorem shaParts_holds : Rows.ShaPartsSaid := shaParts.over
#print axioms shaParts_holds
end Go.Proofs.Ytojafgilpnnbiaa
