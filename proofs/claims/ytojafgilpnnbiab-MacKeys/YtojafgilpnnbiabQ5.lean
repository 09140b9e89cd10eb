/- MacKeys: for any key, any label and any number, the statement's function answers true and leaves its arguments as they were. No condition. -/
import Derived.Test.YtojafgilpnnbiabP5
import Derived.Test.YtojafgilpnnbiabN5
set_option linter.unusedVariables false
set_option linter.unusedSimpArgs false
namespace Go.Proofs.Ytojafgilpnnbiab.macKeys
open Go.ChangeShapes Go.WideShapes Go.ChangeAt Go.RowKit
open Go.ChangeMaps (open_string shut_string)
open Go.Proofs.Ytojafgilpnnbiab.macDerives (mayLabel_any)

theorem own : ownKnob Try.prog.godebug = none := by kernel_rfl
theorem laidOut : laidOutB Try.prog = true := by kernel_rfl

theorem neq_digest (w : World) (xs : List UInt8) (hx : xs.length = 32) : (binOp .neq 24 (.agg (xs.map B8).toArray) (.agg (xs.map B8).toArray)).run Try.prog w = .ok (.bool false) w := by
  have := run_equalIn_bytes (P := Try.prog) w 9998 24 5 32 Try.underlying24 Try.underlying5 size_u8 xs xs hx hx
  rw [show (xs == xs) = true by simp] at this
  have h2 : (Op.equalIn 10000 24 (.agg (xs.map B8).toArray) (.agg (xs.map B8).toArray)).run Try.prog w = .ok true w := this
  rw [run_neq_struct, h2]
  rfl
theorem keyCells_len (d : List UInt8) (s : ByteArray) (n : Nat) : (keyCells d s n).length = n * 32 := by
  induction n with
  | zero => rfl
  | succ n ih => rw [keyCells_succ, List.length_append, ih, List.length_map, macL_len]; omega
theorem keyCells_get (d : List UInt8) (s : ByteArray) (n k j : Nat) (hk : k < n) (hj : j < 32) : (keyCells d s n)[k * 32 + j]? = ((macL d (askL s k)).map B8)[j]? := by
  induction n with
  | zero => omega
  | succ n ih =>
    rw [keyCells_succ]
    rcases Nat.lt_succ_iff_lt_or_eq.1 hk with h | rfl
    · rw [List.getElem?_append_left (by rw [keyCells_len]; omega)]; exact ih h
    · rw [List.getElem?_append_right (by rw [keyCells_len]; omega), keyCells_len]
      congr 1
      omega
theorem OD.form {base : Nat} {w : World} {v : Value} {n : Nat} {xs : List Value} (h : OD base w v n xs) : ∃ p cap, v = .slice p n cap := by
  rcases h.2 with ⟨h1, h2⟩ | ⟨g, cap, cur, h1, _⟩
  · exact ⟨none, 0, by rw [h1, h2]⟩
  · exact ⟨_, cap, h1⟩

/-- What stays while a round runs. -/
def LS (w : World) (DL RL : List Value) (g o : Nat) (w' : World) : Prop := w'.rangeAt w.heap.size 0 DL ∧ w'.rangeAt g o RL ∧ Below w.heap.size w w'
theorem LS.below {w a b : World} {DL RL : List Value} {g o : Nat} (h : LS w DL RL g o a) (hb : Below a.heap.size a b) : LS w DL RL g o b := by
  obtain ⟨h1, h2, h3⟩ := h
  exact ⟨rangeAt_below h1 hb, rangeAt_below h2 hb, h3.trans (hb.mono h3.size)⟩



set_option maxHeartbeats 8000000 in
set_option maxRecDepth 100000 in
theorem walk (d : List UInt8) (s : ByteArray) (m : Int) (w : World) (hd : d.length = 32) (hwf : (Lit.int .i64 m).wf = true) :
    Calls Try.prog 6 #[.agg (d.map B8).toArray, .string s, .int .i64 m] w fun e w' => e = .returned (.bool true) ∧ Below w.heap.size w w' := by
  have hkn := fun W => known_any W
  have hnum := fun k W => num_any k W
  by_cases hlen : s.size ≤ 9000
  · have hlt : ¬ (9000 : Int) < (s.size : Int) := by omega
    by_cases hmid : 40 < m ∧ m ≤ 256
    · have h1 : 40 < m := hmid.1
      have h2 : m ≤ 256 := hmid.2
      clear hmid
      generalize (d.map B8).toArray = DA at *
      clear hwf
      go_enter Try.func6, Try.ntmps6
      go_wp2_with fail
      refine (hkn _).mono ?_
      rintro e w1 ⟨rfl, b1⟩
      go_wp2
      go_ret
      exact ⟨rfl, ((Below.refl _ _).alloc (Nat.le_refl _) _).trans (b1.mono (by simp))⟩
    · have hml := fun W => mayLabel_any s W hlen
      obtain ⟨DL, hDL⟩ : ∃ DL, DL = d.map B8 := ⟨_, rfl⟩
      have hiD : (Try.prog.info? 24).map (·.size) = some DL.length := by rw [hDL, List.length_map, hd]; kernel_rfl
      have HID : Hid ((Try.prog.info? 24).map (·.size) = some DL.toArray.size) := hiD
      have hu := Try.underlying24
      by_cases hok : 1 ≤ s.size ∧ s.size ≤ 64
      · rw [show decide (1 ≤ s.size ∧ s.size ≤ 64) = true by simp [hok]] at hml
        by_cases hneg : m < 0
        · have hke := fun W => keys_bad d s m W (.inr (.inl hneg))
          have h40 : ¬ 40 < m := by omega
          rw [← hDL] at hke ⊢
          clear hDL hd hok hwf hmid
          go_enter Try.func6, Try.ntmps6
          go_wp2_with (refine wpList_load_row rfl 24 _ rfl w.heap.size rfl 24 DL.toArray (0, 0) _ (heap_alloc_new _ _) Try.underlying24 rfl HID.out ?_)
          refine (hke _).mono ?_
          rintro e w1 ⟨rfl, hb1⟩
          have hbw1 : Below w.heap.size w w1 := ((Below.refl _ _).alloc (Nat.le_refl _) _).trans (hb1.mono (by simp))
          clear hb1 hke
          go_wp2_with fail
          refine (hml _).mono ?_
          rintro e wx ⟨rfl, rfl⟩
          go_wp2_with fail
          refine (hnum _ _).mono ?_
          rintro e wy ⟨rfl, rfl⟩
          go_wp2_with fail
          refine (hkn _).mono ?_
          rintro e w5 ⟨rfl, hb5⟩
          have c5 := hbw1.trans (hb5.mono hbw1.size)
          clear hb5 hbw1
          go_wp2
          go_ret
          exact ⟨rfl, c5⟩
        · by_cases hbig : 256 < m
          · have hke := fun W => keys_bad d s m W (.inr (.inr hbig))
            have h40 : 40 < m := by omega
            have h256 : ¬ m ≤ 256 := by omega
            rw [← hDL] at hke ⊢
            clear hDL hd hok hwf hmid
            go_enter Try.func6, Try.ntmps6
            go_wp2_with (refine wpList_load_row rfl 24 _ rfl w.heap.size rfl 24 DL.toArray (0, 0) _ (heap_alloc_new _ _) Try.underlying24 rfl HID.out ?_)
            refine (hke _).mono ?_
            rintro e w1 ⟨rfl, hb1⟩
            have hbw1 : Below w.heap.size w w1 := ((Below.refl _ _).alloc (Nat.le_refl _) _).trans (hb1.mono (by simp))
            clear hb1 hke
            go_wp2_with fail
            refine (hml _).mono ?_
            rintro e wx ⟨rfl, rfl⟩
            go_wp2_with fail
            refine (hnum _ _).mono ?_
            rintro e wy ⟨rfl, rfl⟩
            go_wp2_with fail
            refine (hkn _).mono ?_
            rintro e w5 ⟨rfl, hb5⟩
            have c5 := hbw1.trans (hb5.mono hbw1.size)
            clear hb5 hbw1
            go_wp2
            go_ret
            exact ⟨rfl, c5⟩
          · obtain ⟨n, rfl⟩ := Int.eq_ofNat_of_zero_le (show 0 ≤ m by omega)
            have hn40 : n ≤ 40 := by omega
            have h40 : ¬ (40 : Int) < (n : Int) := by omega
            have hke := fun W => keys_ok d s n W hd (by omega) hok.2 (by omega)
            have hrd := fun k W hk => refDerive_any d s k W hd hok.2 hk
            have HKG : Hid _ := fun k j hk hj => keyCells_get d s n k j hk hj
            have hne := fun k W => neq_digest W (macL d (askL s k)) (macL_len _ _)
            have HM32 : Hid (∀ k, ((macL d (askL s k)).map B8).length = 32) := fun k => by rw [List.length_map, macL_len]
            rw [← hDL] at hke ⊢
            simp only [← hDL] at hrd
            clear hDL hd hwf hmid hok
            go_enter Try.func6, Try.ntmps6
            go_wp2_with (refine wpList_load_row rfl 24 _ rfl w.heap.size rfl 24 DL.toArray (0, 0) _ (heap_alloc_new _ _) Try.underlying24 rfl HID.out ?_)
            refine (hke _).mono ?_
            rintro e w1 ⟨v, rfl, hod, hb1⟩
            have G1 : Hid (w1.heap[w.heap.size]? = some (.cells DL.toArray 24 (0, 0))) := below_blk hb1 (by simp) (heap_alloc_new _ _)
            have hbw1 : Below w.heap.size w w1 := ((Below.refl _ _).alloc (Nat.le_refl _) _).trans (hb1.mono (by simp))
            have hs1 := row_lt G1.out
            obtain ⟨p, cap, rfl⟩ := OD.form hod
            have HOD : Hid _ := hod
            clear hb1 hke hod
            go_wp2_with fail
            refine (hml _).mono ?_
            rintro e wx ⟨rfl, rfl⟩
            clear hml
            go_wp2_with fail
            refine (hnum _ _).mono ?_
            rintro e wy ⟨rfl, rfl⟩
            go_wp2
            go_loopw [9] (fun i wr => ∃ k : Nat, k ≤ n ∧ i = .int .i64 k ∧ Below w1.heap.size w1 wr) (fun i _ => n - (intOf i).toNat)
            case atStart => exact ⟨0, Nat.zero_le _, rfl, Below.refl _ _⟩
            case round =>
              obtain ⟨k, hk, rfl, hbel⟩ := hrel
              by_cases hltk : k < n
              · have hodr := OD.below HOD.out hbel
                rcases hodr.2 with ⟨h1, h2⟩ | ⟨g, cp, cur, h1, h2, h3, h4, h5, h6, h7⟩
                · exact absurd h2 (by omega)
                simp only [Value.slice.injEq] at h1
                obtain ⟨rfl, _, rfl⟩ := h1
                have hrd' := fun W => hrd k W (by omega)
                have hne' := fun W => hne k W
                have hRl := HM32.out k
                obtain ⟨RL, hRL⟩ : ∃ RL, RL = (macL d (askL s k)).map B8 := ⟨_, rfl⟩
                have hrg : wr.rangeAt g (k * 32) RL := fun j u hu => by
                  have hj : j < 32 := by have := (List.getElem?_eq_some_iff.1 hu).1; rw [hRL, hRl] at this; exact this
                  rw [cell_of_row _ _ _ _ _ _ h3]
                  have hg := HKG.out k j hltk hj
                  rw [← hRL, hu, ← h7, List.getElem?_take_of_lt (by omega)] at hg
                  simpa using hg
                have hiR : (Try.prog.info? 24).map (·.size) = some RL.length := by rw [hRL, hRl]; kernel_rfl
                simp only [← hRL] at hrd' hne'
                have HLS : Hid (LS w DL RL g (k * 32) wr.drew) := ⟨rangeAt_row (by rw [heap_drew]; exact (hbel.block _ hs1).trans G1.out), (by intro j u hu; exact hrg j u hu), (hbw1.trans (hbel.mono (by omega))).drew⟩
                have hwk : IntKind.u64.wrap (k : Int) = (k : Int) := by rw [IntKind.wrap_u64]; omega
                have HBEL : Hid _ := hbel
                clear hRL hRl hrg hodr h2 h3 h4 h5 h6 h7 hbel hrd hne
                go_wp2
                refine wp_region_held_drew (S := fun w' => LS w DL RL g (k * 32) w' ∧ Below w1.heap.size w1 w') (by kernel_rfl) ⟨HLS.out, HBEL.out.drew⟩ (fun hHeld => ?_)
                refine wpAnyH_take (i := 0) (oi := { dst := some 65, op := Go.Op.move (Go.Operand.tmp 7), type := 40, pos := _, after := #[], guard := none }) (v := .slice (some ⟨g, 0, none⟩) n cap) rfl (by kernel_rfl) (by kernel_rfl) (by kernel_rfl) (fun _ _ _ h => h) (Or.inl ⟨by rfl, fun w' hw' => ?_⟩) hHeld ?_
                · first | (go_simp; done) | (go_simp; rfl)
                try simp only [Act.put, List.setIfInBounds_toArray, List.set_cons_zero, List.set_cons_succ]
                refine wpAnyH_take (i := 1) (oi := { dst := some 66, op := Go.Op.move (Go.Operand.tmp 9), type := 3, pos := _, after := #[], guard := none }) (v := .int .i64 (k : Int)) rfl (by kernel_rfl) (by kernel_rfl) (by kernel_rfl) (fun _ _ _ h => h) (Or.inl ⟨by rfl, fun w' hw' => ?_⟩) hHeld ?_
                · first | (go_simp; done) | (go_simp; rfl)
                try simp only [Act.put, List.setIfInBounds_toArray, List.set_cons_zero, List.set_cons_succ]
                refine wpAnyH_take (i := 2) (oi := { dst := some 67, op := Go.Op.indexAddr 40 (Go.Operand.tmp 65) (Go.Operand.tmp 66), type := 0, pos := _, after := #[{ on := 0, ground := Go.Ground.data }, { on := 1, ground := Go.Ground.data }], guard := none }) (v := .pointer (some ⟨g, k * 32, none⟩)) rfl (by kernel_rfl) (by kernel_rfl) (by kernel_rfl) (fun _ _ _ h => h) (Or.inl ⟨by rfl, fun w' hw' => ?_⟩) hHeld ?_
                · first | (go_simp; done) | (go_simp; rfl)
                try simp only [Act.put, List.setIfInBounds_toArray, List.set_cons_zero, List.set_cons_succ]
                refine wpAnyH_take (i := 3) (oi := { dst := some 68, op := Go.Op.load 24 (Go.Operand.tmp 67), type := 24, pos := _, after := #[{ on := 2, ground := Go.Ground.data }], guard := none }) rfl (by kernel_rfl) (by kernel_rfl) (by kernel_rfl) (fun _ _ _ h => h) (yieldsIf_load_mid (by rfl) 24 (.tmp 67) rfl (g) (k * 32) rfl (RL) _ (fun _ h => h.1.2.1) hu rfl hiR) hHeld ?_
                try simp only [Act.put, List.setIfInBounds_toArray, List.set_cons_zero, List.set_cons_succ]
                refine wpAnyH_take (i := 4) (oi := { dst := some 69, op := Go.Op.load 24 (Go.Operand.tmp 3), type := 24, pos := _, after := #[], guard := none }) rfl (by kernel_rfl) (by kernel_rfl) (by kernel_rfl) (fun _ _ _ h => h) (yieldsIf_load_mid (by rfl) 24 (.tmp 3) rfl (w.heap.size) (0) rfl (DL) _ (fun _ h => h.1.1) hu rfl hiD) hHeld ?_
                try simp only [Act.put, List.setIfInBounds_toArray, List.set_cons_zero, List.set_cons_succ]
                refine wpAnyH_take (i := 5) (oi := { dst := some 70, op := Go.Op.move (Go.Operand.tmp 1), type := 9, pos := _, after := #[], guard := none }) (v := .string s) rfl (by kernel_rfl) (by kernel_rfl) (by kernel_rfl) (fun _ _ _ h => h) (Or.inl ⟨by rfl, fun w' hw' => ?_⟩) hHeld ?_
                · first | (go_simp; done) | (go_simp; rfl)
                try simp only [Act.put, List.setIfInBounds_toArray, List.set_cons_zero, List.set_cons_succ]
                refine wpAnyH_take (i := 6) (oi := { dst := some 71, op := Go.Op.move (Go.Operand.tmp 9), type := 3, pos := _, after := #[], guard := none }) (v := .int .i64 (k : Int)) rfl (by kernel_rfl) (by kernel_rfl) (by kernel_rfl) (fun _ _ _ h => h) (Or.inl ⟨by rfl, fun w' hw' => ?_⟩) hHeld ?_
                · first | (go_simp; done) | (go_simp; rfl)
                try simp only [Act.put, List.setIfInBounds_toArray, List.set_cons_zero, List.set_cons_succ]
                refine wpAnyH_take (i := 7) (oi := { dst := some 72, op := Go.Op.convert 3 32 (Go.Operand.tmp 71), type := 32, pos := _, after := #[{ on := 6, ground := Go.Ground.data }], guard := none }) (v := .int .u64 (k : Int)) rfl (by kernel_rfl) (by kernel_rfl) (by kernel_rfl) (fun _ _ _ h => h) (Or.inl ⟨by rfl, fun w' hw' => ?_⟩) hHeld ?_
                · first | (go_simp; done) | (go_simp; rfl)
                try simp only [Act.put, List.setIfInBounds_toArray, List.set_cons_zero, List.set_cons_succ]
                refine wpAnyH_ready (rs := [8]) (by kernel_rfl) (by simp) ?_
                refine AllReadyH.cons (o := { dst := some 73, op := Go.Op.call { callee := Go.Callee.value (Go.Operand.func 18), args := #[Go.Operand.tmp 69, Go.Operand.tmp 70, Go.Operand.tmp 72], argTypes := #[24, 9, 32] }, type := 24, pos := _, after := #[{ on := 4, ground := Go.Ground.data }, { on := 5, ground := Go.Ground.data }, { on := 7, ground := Go.Ground.data }], guard := none }) rfl (fun K hK => ?_) AllReadyH.nil
                rw [if_pos (by rfl)]
                go_wp2_with fail
                refine (hrd' _).mono ?_
                rintro e w3 ⟨rfl, hb3⟩
                have hHeld3 : LS w DL RL g (k * 32) w3 ∧ Below w1.heap.size w1 w3 := ⟨LS.below hHeld.1 hb3, hHeld.2.trans (hb3.mono hHeld.2.size)⟩
                clear hb3
                refine hK.out _ _ hHeld3 (fun _ => ?_)
                clear hK K
                try simp only [Act.put, List.setIfInBounds_toArray, List.set_cons_zero, List.set_cons_succ]
                have hHeld := hHeld3
                refine wpAnyH_take (i := 9) (oi := { dst := some 74, op := Go.Op.binOp Go.BinOp.neq 24 (Go.Operand.tmp 68) (Go.Operand.tmp 73) 24, type := 4, pos := _, after := #[{ on := 3, ground := Go.Ground.data }, { on := 8, ground := Go.Ground.data }], guard := none }) (v := .bool false) rfl (by kernel_rfl) (by kernel_rfl) (by kernel_rfl) (fun _ _ _ h => h) (Or.inl ⟨by rfl, fun w' hw' => ?_⟩) hHeld ?_
                · first | (go_simp; done) | (go_simp; rfl)
                try simp only [Act.put, List.setIfInBounds_toArray, List.set_cons_zero, List.set_cons_succ]
                refine wpAnyH_done (by kernel_rfl) ?_ _
                have HB3 : Hid _ := hHeld3.2
                clear hHeld hHeld3
                go_wp2
                go_roundw
                case rel => exact ⟨k + 1, by omega, by go_num, HB3.out⟩
                case measure => simp [intOf]; omega
              · go_wp2_with fail
                refine (hkn _).mono ?_
                rintro e w5 ⟨rfl, hb5⟩
                have c5 : Below w.heap.size w w5 := (hbw1.trans (hbel.mono (by omega))).trans (hb5.mono (by have := hbel.size; omega))
                clear hb5 hbel
                go_wp2
                go_ret
                exact ⟨rfl, c5⟩
      · have hbad : s.size = 0 ∨ 64 < s.size := by omega
        have hke := fun W => keys_bad d s m W (.inl hbad)
        rw [show decide (1 ≤ s.size ∧ s.size ≤ 64) = false by simpa using hok] at hml
        rw [← hDL] at hke ⊢
        by_cases h40 : 40 < m
        · have h256 : ¬ m ≤ 256 := fun h => hmid ⟨h40, h⟩
          clear hDL hd hok hwf hmid hbad
          go_enter Try.func6, Try.ntmps6
          go_wp2_with (refine wpList_load_row rfl 24 _ rfl w.heap.size rfl 24 DL.toArray (0, 0) _ (heap_alloc_new _ _) Try.underlying24 rfl HID.out ?_)
          refine (hke _).mono ?_
          rintro e w1 ⟨rfl, hb1⟩
          have hbw1 : Below w.heap.size w w1 := ((Below.refl _ _).alloc (Nat.le_refl _) _).trans (hb1.mono (by simp))
          clear hb1 hke
          go_wp2_with fail
          refine (hml _).mono ?_
          rintro e wx ⟨rfl, rfl⟩
          go_wp2_with fail
          refine (hnum _ _).mono ?_
          rintro e wy ⟨rfl, rfl⟩
          go_wp2_with fail
          refine (hkn _).mono ?_
          rintro e w5 ⟨rfl, hb5⟩
          have c5 := hbw1.trans (hb5.mono hbw1.size)
          clear hb5 hbw1
          go_wp2
          go_ret
          exact ⟨rfl, c5⟩
        · clear hDL hd hok hwf hmid hbad
          go_enter Try.func6, Try.ntmps6
          go_wp2_with (refine wpList_load_row rfl 24 _ rfl w.heap.size rfl 24 DL.toArray (0, 0) _ (heap_alloc_new _ _) Try.underlying24 rfl HID.out ?_)
          refine (hke _).mono ?_
          rintro e w1 ⟨rfl, hb1⟩
          have hbw1 : Below w.heap.size w w1 := ((Below.refl _ _).alloc (Nat.le_refl _) _).trans (hb1.mono (by simp))
          clear hb1 hke
          go_wp2_with fail
          refine (hml _).mono ?_
          rintro e wx ⟨rfl, rfl⟩
          go_wp2_with fail
          refine (hnum _ _).mono ?_
          rintro e wy ⟨rfl, rfl⟩
          go_wp2_with fail
          refine (hkn _).mono ?_
          rintro e w5 ⟨rfl, hb5⟩
          have c5 := hbw1.trans (hb5.mono hbw1.size)
          clear hb5 hbw1
          go_wp2
          go_ret
          exact ⟨rfl, c5⟩
  · have hlt : (9000 : Int) < (s.size : Int) := by omega
    generalize (d.map B8).toArray = DA at *
    clear hwf
    go_enter Try.func6, Try.ntmps6
    go_wp2_with fail
    refine (hkn _).mono ?_
    rintro e w1 ⟨rfl, b1⟩
    go_wp2
    go_ret
    exact ⟨rfl, ((Below.refl _ _).alloc (Nat.le_refl _) _).trans (b1.mono (by simp))⟩

set_option maxRecDepth 100000 in
theorem lifted (os : Os) (started : os.Started) (H : Type) (enc : TypeId × Value → H) :
    ReturnsInHanded {} Try.checked os 6 .any (Rows.macKeysSpec.pre6 enc Try.prog Try.f6 Rows.macKeysRow.domain false) (Rows.macKeysSpec.post enc Try.prog Try.f6 false true false false) := by
  refine returnsInHanded_of_change (C := Try.checked) own started (by kernel_rfl) Try.func6
    (ChangeSpec.witness6 (enc := enc) (C := Try.checked) false ⟨#[], #[.agg (Array.replicate 32 (.int .u8 0)), .string ByteArray.empty, .int .i64 0], []⟩ 8 (by kernel_rfl) (by kernel_rfl) (by kernel_rfl) (by kernel_rfl)) ?_
  intro W base args ds gs before hval0 hW hcnd _
  have hval : ∀ (j : Nat) t v, Try.f6.params[j]? = some t → args[j]? = some v → Value.okWide Try.prog W .any base t v := hval0
  have hW' := hW
  obtain ⟨p, q, hA0, hV, rfl, hfz, hnd⟩ := hW
  have hA : DataW.TrodAll enc Try.prog W 0 (fun _ => true) true Try.f6.params.toList args.toList ds p := hA0
  rw [Try.params6] at hA hval
  obtain ⟨v0, vs0, d0, ds0, p0, q0, hargs, rfl, rfl, h0, r0⟩ := trodAll_cons hA
  obtain ⟨v1, vs1, d1, ds1, p1, q1, rfl, rfl, rfl, h1, r1⟩ := trodAll_cons r0
  obtain ⟨v2, vs2, d2, ds2, p2, q2, rfl, rfl, rfl, h2, r2⟩ := trodAll_cons r1
  obtain ⟨rfl, rfl, rfl⟩ := trodAll_nil r2
  obtain rfl : args = #[v0, v1, v2] := by cases args; simp_all
  obtain ⟨rfl, rfl⟩ := trodVars_none hV
  have k0 := h0
  have lt0 : ∀ x ∈ p0, x.block < W.heap.size := by obtain ⟨m, hm⟩ := k0; exact DataW.trod_lt m _ _ _ hm
  obtain ⟨l0, rfl, hl0⟩ := open_octets Try.underlying24 (by kernel_rfl) (hval 0 24 v0 rfl rfl) h0
  obtain ⟨s1, rfl, rfl, rfl, sm1⟩ := open_string Try.underlying9 (hval 1 9 v1 rfl rfl) h1
  obtain ⟨n2, rfl, rfl, rfl, w2⟩ := open_int Try.underlying3 (hval 2 3 v2 rfl rfl) h2
  clear hA0 hval0
  refine (walk l0 s1 n2 W hl0 w2).mono fun e W' ⟨he, bel⟩ => ?_
  subst he
  exact ⟨_, rfl, _, _, _, [], _, [], hW', trodAll_mk1 (shut_bool Try.underlying4 _), (trodAll_cons_mk (Below.trod laidOut (by kernel_rfl) (of_decide_eq_true (by kernel_rfl)) k0 bel lt0) (trodAll_cons_mk (shut_string Try.underlying9 sm1) (trodAll_cons_mk (shut_int Try.underlying3 w2) trodAll_mk0))), rfl, bel.frame _, fun h => by cases h⟩

theorem over : Rows.macKeysRow.holds Try.pinned (OpenSpec.ofChange Rows.macKeysSpec) :=
  OpenClaim.holds_of_wide 6 Try.f6 rfl rfl rfl rfl rfl rfl rfl ⟨rfl, rfl, rfl, rfl, rfl⟩ rfl rfl rfl rfl rfl (by kernel_rfl) Try.func6 (by kernel_rfl)
    (of_decide_eq_true (by kernel_rfl)) (by unfold Func.isWrapper; first | (rw [if_pos (by decide +kernel)]; kernel_rfl) | (rw [if_neg (by decide +kernel)]; exact ⟨rfl, rfl⟩))
    (fun os started H enc _ => lifted os started H enc)

end Go.Proofs.Ytojafgilpnnbiab.macKeys
namespace Go.Proofs.Ytojafgilpnnbiab
theorem macKeys_holds : Rows.MacKeysSaid := macKeys.over
#print axioms macKeys_holds
end Go.Proofs.Ytojafgilpnnbiab
