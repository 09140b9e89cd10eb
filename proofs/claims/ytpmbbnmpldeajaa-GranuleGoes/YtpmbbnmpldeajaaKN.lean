/- GranuleGoes: for any number of granules and any acts the statement's function answers true and leaves its arguments as they were. No condition. -/
import Derived.Test.YtpmbbnmpldeajaaKM
set_option linter.unusedVariables false
set_option linter.unusedSimpArgs false
namespace Go.Proofs.Ytpmbbnmpldeajaa.GC
open Go.RowKit

/-- A row has an owner just where it is a realm's. -/
def Rok (l : List Rw) : Prop := ∀ r ∈ l, (r.ow ≠ 0 ↔ 2 ≤ r.st)
theorem stR_ok {r : Rw} {f t : Int} {o : Nat} (h : r.ow ≠ 0 ↔ 2 ≤ r.st) : (stR r f t o).ow ≠ 0 ↔ 2 ≤ (stR r f t o).st := by
  unfold stR
  by_cases hc : stC r f t o = 0
  · rw [if_pos hc]
    unfold stC at hc
    by_cases hA : mayB f t = true ∧ decide (2 ≤ t) = decide (o ≠ 0)
    · have h2 := hA.2
      rw [decide_eq_decide] at h2
      exact h2.symm
    · rw [if_neg hA] at hc; omega
  · rw [if_neg hc]; exact h
theorem Rok.step {l : List Rw} (h : Rok l) (a : Ac) : Rok (doL l a) := fun x hx => by
  rcases mem_doL hx with hx | ⟨r, hr, rfl⟩
  · exact h x hx
  · have h1 := h r hr
    unfold doR
    split
    · exact stR_ok h1
    · split
      · exact h1
      · split
        · split
          · exact h1
          · exact h1
        · exact h1
theorem Rok.zero (n : Nat) : Rok (List.replicate n ZR) := fun x hx => by
  rw [(List.mem_replicate.1 hx).2]; simp [ZR]
theorem Rok.run {L0 : List Rw} (h : Rok L0) (ls : List Ac) : ∀ k, k ≤ ls.length → Rok (runB L0 ls k)
  | 0, _ => by simpa [runB] using h
  | k + 1, hk => by
    rw [runB_succ L0 ls k _ (List.getElem?_eq_getElem (by omega))]
    exact (Rok.run h ls k (by omega)).step _
theorem wpList_store_segL {ops : Array Oper} {rest : List Oper} {op : Oper} {a : Act} {w : World} {Q : Exit → Act → World → Prop} (hgd : op.guard = none) (ty : TypeId) (x y : Operand) (ho : op.op = .store ty x y)
    (b o : Nat) (cells : Array Value) (cur : List Value) (t : TypeId) (hx : a.eval x = .pointer (some ⟨b, o, none⟩)) (hy : a.eval y = .agg cells)
    (hg : w.heap[b]? = some (.cells cur.toArray t (0, 0))) (hi : (Try.prog.info? ty).map (·.size) = some cells.size) (hfit : o + cells.size ≤ cur.length) (h1 : cells.all (·.oneCell') = true)
    (h : ∀ W', W' = w.setRow b (splice cur o cells.toList).toArray → wpList Try.prog ops Q rest (a.put op.dst undef) W') : wpList Try.prog ops Q (op :: rest) a w :=
  wpList_plain hgd fun _ hK => wp_store_seg ty x y ho b o cells cur t hx hy hg hi hfit h1 (hK _ _ (h _ rfl))
set_option maxHeartbeats 8000000 in
set_option maxRecDepth 100000 in
theorem goes_walk (n : Nat) (v1 : Value) (ls : List Ac) (w : World) (h1 : 1 ≤ n) (h2 : n ≤ 20) (hl : ls.length ≤ 100) (hA : HAc w v1 ls) :
    Calls Try.prog 6 #[.int .i64 (n : Int), v1] w fun e w' => e = .returned (.bool true) ∧ Below w.heap.size w w' := by
  obtain ⟨p1, c1, rfl, hls⟩ := hA
  have HLS : Hid _ := hls
  have HNW : Hid (Calls Try.prog 10 #[.int .i64 (n : Int)] w fun e w' => NewEnd w n e w') := new_ok n w (by omega) (by omega)
  obtain ⟨i0, hi, hz0, hz1, hz2⟩ := info_parts infoRow
  unfold rV at hz0
  obtain ⟨ZC, hZC⟩ : ∃ V, V = (rL ZR).toArray := ⟨_, rfl⟩
  rw [← hZC] at hz0
  have HZC : Hid _ := hZC
  clear hls hZC
  go_enter Try.func6, Try.ntmps6
  go_wp2_with fail
  refine Calls.mono HNW.out ?_
  rintro e w1 ⟨tb, gb, rfl, hP, htb, hgb, hb1⟩
  have HP : Hid _ := hP
  have HB1 : Hid _ := hb1
  clear hP hb1 HNW
  go_wp2_with (at_make; refine wpList_make_full _ rfl _ _ 28 rfl w1.heap.size 43 i0 (.agg ZC) 3 Try.underlying28 hi hz0 hz1 _ _ _ _ n rfl rfl (by omega) (by omega) ?b2 ?b3 (Nat.le_refl _) ?_)
  case b2 => rw [hz2]; omega
  case b3 => unfold maxLen; omega
  intro w0 hown0 hgrow0
  have hb0 : Below w1.heap.size w1 w0 := (Below.refl _ _).grown hgrow0 (Nat.le_refl _) (fun k h => by cases h)
  have hR : AR w0 w1.heap.size (List.replicate n ZR) := own_ar (by unfold rV; rw [← HZC.out]; exact hown0)
  have HB0 : Hid (Below w.heap.size w w0) := HB1.out.trans (hb0.mono HB1.out.size)
  have hJ : JM w.heap.size w0 tb gb w1.heap.size n (runB (List.replicate n ZR) ls 0) := by
    have hg := HP.out.row.lt
    have ht := row_lt HP.out.head
    exact ⟨HP.out.below hb0, hR, by omega, by omega, HB0.out.size, hgb, HB1.out.size⟩
  have HJ0 : Hid _ := hJ
  generalize w1.heap.size = wb at *
  clear hown0 hgrow0 hb0 hR hJ HP HB1 hi hz0 hz1 hz2 HZC
  go_wp2
  go_loopw [8] (fun i wr => ∃ k : Nat, k ≤ ls.length ∧ i = .int .i64 k ∧ JM w.heap.size wr tb gb wb n (runB (List.replicate n ZR) ls k) ∧ Below w.heap.size w wr) (fun i _ => ls.length - (intOf i).toNat)
  case atStart => exact ⟨0, Nat.zero_le _, rfl, HJ0.out, HB0.out⟩
  case round =>
    clear HJ0 HB0
    obtain ⟨k, hk, rfl, hJ, hB⟩ := hrel
    generalize wr = W at *
    have HJ : Hid _ := hJ
    have HBK : Hid (Below w.heap.size w W) := hB
    by_cases hlt : k < ls.length
    · have hkI : (k : Int) < (ls.length : Int) := by omega
      obtain ⟨ac, hac⟩ : ∃ ac, ls[k]? = some ac := ⟨_, List.getElem?_eq_getElem hlt⟩
      obtain ⟨ag, ao, rfl, hra, hok⟩ := HLS.out k ac hac
      have hra2 := rangeAt_below hra hB
      have hdo := do_any w.heap.size tb gb wb n _ ac W hJ hok (((Hm.zero n).run ls k hk).lt (by omega))
      rw [← runB_succ _ ls k ac hac] at hdo
      have HROK : Hid (Rok (runB (List.replicate n ZR) ls (k + 1))) := (Rok.zero n).run ls (k + 1) (by omega)
      obtain ⟨l, hlq⟩ : ∃ l, l = runB (List.replicate n ZR) ls (k + 1) := ⟨_, rfl⟩
      rw [← hlq] at hdo HROK
      have HLQ : Hid _ := hlq
      have HDO : Hid _ := hdo
      obtain ⟨AL, hAL⟩ : ∃ L, L = acL ac := ⟨_, rfl⟩
      rw [← hAL] at hra2 HDO
      have HRA : Hid _ := hra2
      have HAI : Hid _ := info5 AL (by rw [hAL]; rfl)
      clear hra hra2 hok hac hJ hB hAL hdo hlq
      go_wp2_with (refine wpList_load_mid rfl 34 _ rfl ag (ao + k * 5) rfl AL _ HRA.out Try.underlying34 rfl HAI.out ?_)
      refine Calls.mono HDO.out ?_
      rintro e W2 ⟨rfl, hJ2, hK2⟩
      have HB2 : Hid (Below w.heap.size w W2) := HBK.out.trans (HJ.out.bel hK2)
      have HJ2 : Hid _ := hJ2
      clear hJ2 hK2 HDO HRA HAI HJ HBK
      go_wp2
      go_loopw [9] (fun i wr => ∃ g : Nat, g ≤ n ∧ i = .int .i64 g ∧ JM w.heap.size wr tb gb wb n l ∧ Below w.heap.size w wr) (fun i _ => n - (intOf i).toNat)
      case atStart => exact ⟨0, Nat.zero_le _, rfl, HJ2.out, HB2.out⟩
      case round =>
        clear HJ2 HB2 W2
        obtain ⟨g, hg, rfl, hJ, hB⟩ := hrel
        clear W
        generalize wr = W at *
        have HJ : Hid _ := hJ
        have HBK : Hid (Below w.heap.size w W) := hB
        by_cases hlg : g < n
        · have hgI : (g : Int) < (n : Int) := by omega
          obtain ⟨r, hr⟩ : ∃ r, l[g]? = some r := ⟨_, List.getElem?_eq_getElem (by rw [hJ.pm.len]; exact hlg)⟩
          have hro := row_ok tb gb n n g l r W hJ.pm.pr hr
          have hrk := HROK.out r (List.mem_of_getElem? hr)
          have hra := range_row hJ.rm.range hr
          obtain ⟨st, ow, held⟩ := r
          unfold rV rL at hro
          simp only at hrk
          have HRO : Hid _ := hro
          have HRG : Hid _ := hr
          have HRA : Hid (W.rangeAt wb (g * 3) [.int .i64 st, .int .u64 (ow : Int), .int .i64 (held : Int)]) := hra
          have hh0 : ¬ (held : Int) < 0 := by omega
          have HRK : Hid ((2 ≤ st ∧ ((ow : Int) != 0) = true) ∨ (¬ 2 ≤ st ∧ ((ow : Int) != 0) = false)) := by
            show _ ∨ _
            by_cases h2 : 2 ≤ st
            · exact .inl ⟨h2, by rw [bne_iff_ne]; have := hrk.2 h2; omega⟩
            · exact .inr ⟨h2, by rw [bne_eq_false_iff_eq]; have : ¬ ow ≠ 0 := fun h => h2 (hrk.1 h); omega⟩
          clear hro hr hra hJ hB hrk
          go_wp2_with fail
          refine Calls.mono HRO.out ?_
          rintro e W1 ⟨rfl, hb1⟩
          obtain ⟨W2, hW2⟩ : ∃ W2, W2 = W1.alloc (.cells #[.int .i64 st, .int .u64 (ow : Int), .int .i64 (held : Int)] 43 (0, 0)) := ⟨_, rfl⟩
          have hb2 : Below W.heap.size W W2 := by rw [hW2]; exact hb1.alloc hb1.size _
          have HR2 : Hid (W2.rangeAt W1.heap.size 0 [.int .i64 st, .int .u64 (ow : Int), .int .i64 (held : Int)]) := by rw [hW2]; exact rangeAt_row (cs := [.int .i64 st, .int .u64 (ow : Int), .int .i64 (held : Int)]) (heap_alloc_new _ _)
          have HRA2 : Hid _ := rangeAt_below HRA.out hb2
          have HJ2 : Hid _ := HJ.out.below hb2
          have HB2 : Hid (Below w.heap.size w W2) := HBK.out.trans (hb2.mono HBK.out.size)
          clear hb1 hb2 HRO HRA HJ HBK
          rcases HRK.out with ⟨hs2, hob⟩ | ⟨hs2, hob⟩
          · clear HRK
            go_wp2_with fail
            rw [← hW2]
            clear hW2
            refine wp_region_held_drew (S := Below W2.heap.size W2) (by kernel_rfl) (below_drew _) (fun hHeld => ?_)
            refine wpAnyH_take (i := 0) (oi := { dst := some 73, op := Go.Op.fieldAddr 43 (Go.Operand.tmp 10) 0, type := 0, pos := _, after := #[], guard := none }) (v := .pointer (some ⟨W1.heap.size, 0, none⟩)) rfl (by kernel_rfl) (by kernel_rfl) (by kernel_rfl) (fun _ _ _ h => h) (Or.inl ⟨by rfl, fun w' hw' => ?_⟩) hHeld ?_
            · first | (go_simp; done) | (go_simp; rfl)
            try simp only [Act.put, List.setIfInBounds_toArray, List.set_cons_zero, List.set_cons_succ]
            refine wpAnyH_take (i := 1) (oi := { dst := some 74, op := Go.Op.load 31 (Go.Operand.tmp 73), type := 31, pos := _, after := #[{ on := 0, ground := Go.Ground.data }], guard := none }) (v := .int .i64 st) rfl (by kernel_rfl) (by kernel_rfl) (by kernel_rfl) (fun _ _ _ h => h) (Or.inl ⟨by rfl, fun w' hw' => ?_⟩) hHeld ?_
            · have hcc := (range_cells (r := ⟨st, ow, held⟩) (rangeAt_below HR2.out hw')).1; simp only at hcc; first | (go_simp; done) | (go_simp; rfl)
            try simp only [Act.put, List.setIfInBounds_toArray, List.set_cons_zero, List.set_cons_succ]
            refine wpAnyH_take (i := 2) (oi := { dst := some 75, op := Go.Op.move (Go.Operand.tmp 7), type := 28, pos := _, after := #[], guard := none }) (v := .slice (some ⟨wb, 0, none⟩) n n) rfl (by kernel_rfl) (by kernel_rfl) (by kernel_rfl) (fun _ _ _ h => h) (Or.inl ⟨by rfl, fun w' hw' => ?_⟩) hHeld ?_
            · first | (go_simp; done) | (go_simp; rfl)
            try simp only [Act.put, List.setIfInBounds_toArray, List.set_cons_zero, List.set_cons_succ]
            refine wpAnyH_take (i := 3) (oi := { dst := some 76, op := Go.Op.move (Go.Operand.tmp 9), type := 3, pos := _, after := #[], guard := none }) (v := .int .i64 (g : Int)) rfl (by kernel_rfl) (by kernel_rfl) (by kernel_rfl) (fun _ _ _ h => h) (Or.inl ⟨by rfl, fun w' hw' => ?_⟩) hHeld ?_
            · first | (go_simp; done) | (go_simp; rfl)
            try simp only [Act.put, List.setIfInBounds_toArray, List.set_cons_zero, List.set_cons_succ]
            refine wpAnyH_take (i := 4) (oi := { dst := some 77, op := Go.Op.indexAddr 28 (Go.Operand.tmp 75) (Go.Operand.tmp 76), type := 0, pos := _, after := #[{ on := 2, ground := Go.Ground.data }, { on := 3, ground := Go.Ground.data }], guard := none }) (v := .pointer (some ⟨wb, g * 3, none⟩)) rfl (by kernel_rfl) (by kernel_rfl) (by kernel_rfl) (fun _ _ _ h => h) (Or.inl ⟨by rfl, fun w' hw' => ?_⟩) hHeld ?_
            · first | (go_simp; done) | (go_simp; rfl)
            try simp only [Act.put, List.setIfInBounds_toArray, List.set_cons_zero, List.set_cons_succ]
            refine wpAnyH_take (i := 5) (oi := { dst := some 78, op := Go.Op.fieldAddr 43 (Go.Operand.tmp 77) 0, type := 0, pos := _, after := #[{ on := 4, ground := Go.Ground.data }], guard := none }) (v := .pointer (some ⟨wb, g * 3, none⟩)) rfl (by kernel_rfl) (by kernel_rfl) (by kernel_rfl) (fun _ _ _ h => h) (Or.inl ⟨by rfl, fun w' hw' => ?_⟩) hHeld ?_
            · first | (go_simp; done) | (go_simp; rfl)
            try simp only [Act.put, List.setIfInBounds_toArray, List.set_cons_zero, List.set_cons_succ]
            refine wpAnyH_take (i := 6) (oi := { dst := some 79, op := Go.Op.load 31 (Go.Operand.tmp 78), type := 31, pos := _, after := #[{ on := 5, ground := Go.Ground.data }], guard := none }) (v := .int .i64 st) rfl (by kernel_rfl) (by kernel_rfl) (by kernel_rfl) (fun _ _ _ h => h) (Or.inl ⟨by rfl, fun w' hw' => ?_⟩) hHeld ?_
            · have hcc := (range_cells (r := ⟨st, ow, held⟩) (rangeAt_below HRA2.out hw')).1; simp only at hcc; first | (go_simp; done) | (go_simp; rfl)
            try simp only [Act.put, List.setIfInBounds_toArray, List.set_cons_zero, List.set_cons_succ]
            refine wpAnyH_take (i := 7) (oi := { dst := some 80, op := Go.Op.binOp Go.BinOp.neq 31 (Go.Operand.tmp 74) (Go.Operand.tmp 79) 31, type := 4, pos := _, after := #[{ on := 1, ground := Go.Ground.data }, { on := 6, ground := Go.Ground.data }], guard := none }) (v := .bool false) rfl (by kernel_rfl) (by kernel_rfl) (by kernel_rfl) (fun _ _ _ h => h) (Or.inl ⟨by rfl, fun w' hw' => ?_⟩) hHeld ?_
            · first | (go_simp; done) | (go_simp; rfl)
            try simp only [Act.put, List.setIfInBounds_toArray, List.set_cons_zero, List.set_cons_succ]
            refine wpAnyH_take (i := 8) (oi := { dst := some 81, op := Go.Op.move (Go.Operand.tmp 80), type := 4, pos := _, after := #[{ on := 7, ground := Go.Ground.data }], guard := none }) (v := .bool false) rfl (by kernel_rfl) (by kernel_rfl) (by kernel_rfl) (fun _ _ _ h => h) (Or.inl ⟨by rfl, fun w' hw' => ?_⟩) hHeld ?_
            · first | (go_simp; done) | (go_simp; rfl)
            try simp only [Act.put, List.setIfInBounds_toArray, List.set_cons_zero, List.set_cons_succ]
            refine wpAnyH_take (i := 9) (oi := { dst := some 82, op := Go.Op.fieldAddr 43 (Go.Operand.tmp 10) 0, type := 0, pos := _, after := #[{ on := 8, ground := Go.Ground.guard }], guard := some (8, true) }) (v := undef) rfl (by kernel_rfl) (by kernel_rfl) (by kernel_rfl) (fun _ _ _ h => h) (Or.inr ⟨by rfl, rfl⟩) hHeld ?_
            try simp only [Act.put, List.setIfInBounds_toArray, List.set_cons_zero, List.set_cons_succ]
            refine wpAnyH_take (i := 10) (oi := { dst := some 83, op := Go.Op.load 31 (Go.Operand.tmp 82), type := 31, pos := _, after := #[{ on := 9, ground := Go.Ground.data }, { on := 8, ground := Go.Ground.guard }], guard := some (8, true) }) (v := undef) rfl (by kernel_rfl) (by kernel_rfl) (by kernel_rfl) (fun _ _ _ h => h) (Or.inr ⟨by rfl, rfl⟩) hHeld ?_
            try simp only [Act.put, List.setIfInBounds_toArray, List.set_cons_zero, List.set_cons_succ]
            refine wpAnyH_take (i := 11) (oi := { dst := some 84, op := Go.Op.binOp Go.BinOp.neq 31 (Go.Operand.tmp 83) (Go.Operand.const (Go.Value.int Go.IntKind.i64 1)) 31, type := 4, pos := _, after := #[{ on := 10, ground := Go.Ground.data }, { on := 8, ground := Go.Ground.guard }], guard := some (8, true) }) (v := undef) rfl (by kernel_rfl) (by kernel_rfl) (by kernel_rfl) (fun _ _ _ h => h) (Or.inr ⟨by rfl, rfl⟩) hHeld ?_
            try simp only [Act.put, List.setIfInBounds_toArray, List.set_cons_zero, List.set_cons_succ]
            refine wpAnyH_take (i := 12) (oi := { dst := some 85, op := Go.Op.pick (Go.Operand.tmp 81) (Go.Operand.tmp 84) (Go.Operand.const (Go.Value.bool false)), type := 4, pos := _, after := #[{ on := 8, ground := Go.Ground.data }, { on := 11, ground := Go.Ground.data }], guard := none }) (v := .bool false) rfl (by kernel_rfl) (by kernel_rfl) (by kernel_rfl) (fun _ _ _ h => h) (Or.inl ⟨by rfl, fun w' hw' => ?_⟩) hHeld ?_
            · first | (go_simp; done) | (go_simp; rfl)
            try simp only [Act.put, List.setIfInBounds_toArray, List.set_cons_zero, List.set_cons_succ]
            refine wpAnyH_take (i := 13) (oi := { dst := some 86, op := Go.Op.move (Go.Operand.tmp 85), type := 4, pos := _, after := #[{ on := 12, ground := Go.Ground.data }, { on := 8, ground := Go.Ground.chain }], guard := none }) (v := .bool false) rfl (by kernel_rfl) (by kernel_rfl) (by kernel_rfl) (fun _ _ _ h => h) (Or.inl ⟨by rfl, fun w' hw' => ?_⟩) hHeld ?_
            · first | (go_simp; done) | (go_simp; rfl)
            try simp only [Act.put, List.setIfInBounds_toArray, List.set_cons_zero, List.set_cons_succ]
            refine wpAnyH_take (i := 14) (oi := { dst := some 87, op := Go.Op.move (Go.Operand.tmp 7), type := 28, pos := _, after := #[{ on := 13, ground := Go.Ground.guard }], guard := some (13, true) }) (v := undef) rfl (by kernel_rfl) (by kernel_rfl) (by kernel_rfl) (fun _ _ _ h => h) (Or.inr ⟨by rfl, rfl⟩) hHeld ?_
            try simp only [Act.put, List.setIfInBounds_toArray, List.set_cons_zero, List.set_cons_succ]
            refine wpAnyH_take (i := 15) (oi := { dst := some 88, op := Go.Op.move (Go.Operand.tmp 9), type := 3, pos := _, after := #[{ on := 13, ground := Go.Ground.guard }], guard := some (13, true) }) (v := undef) rfl (by kernel_rfl) (by kernel_rfl) (by kernel_rfl) (fun _ _ _ h => h) (Or.inr ⟨by rfl, rfl⟩) hHeld ?_
            try simp only [Act.put, List.setIfInBounds_toArray, List.set_cons_zero, List.set_cons_succ]
            refine wpAnyH_take (i := 16) (oi := { dst := some 89, op := Go.Op.indexAddr 28 (Go.Operand.tmp 87) (Go.Operand.tmp 88), type := 0, pos := _, after := #[{ on := 14, ground := Go.Ground.data }, { on := 15, ground := Go.Ground.data }, { on := 13, ground := Go.Ground.guard }], guard := some (13, true) }) (v := undef) rfl (by kernel_rfl) (by kernel_rfl) (by kernel_rfl) (fun _ _ _ h => h) (Or.inr ⟨by rfl, rfl⟩) hHeld ?_
            try simp only [Act.put, List.setIfInBounds_toArray, List.set_cons_zero, List.set_cons_succ]
            refine wpAnyH_take (i := 17) (oi := { dst := some 90, op := Go.Op.fieldAddr 43 (Go.Operand.tmp 89) 0, type := 0, pos := _, after := #[{ on := 16, ground := Go.Ground.data }, { on := 13, ground := Go.Ground.guard }], guard := some (13, true) }) (v := undef) rfl (by kernel_rfl) (by kernel_rfl) (by kernel_rfl) (fun _ _ _ h => h) (Or.inr ⟨by rfl, rfl⟩) hHeld ?_
            try simp only [Act.put, List.setIfInBounds_toArray, List.set_cons_zero, List.set_cons_succ]
            refine wpAnyH_take (i := 18) (oi := { dst := some 91, op := Go.Op.load 31 (Go.Operand.tmp 90), type := 31, pos := _, after := #[{ on := 17, ground := Go.Ground.data }, { on := 13, ground := Go.Ground.guard }], guard := some (13, true) }) (v := undef) rfl (by kernel_rfl) (by kernel_rfl) (by kernel_rfl) (fun _ _ _ h => h) (Or.inr ⟨by rfl, rfl⟩) hHeld ?_
            try simp only [Act.put, List.setIfInBounds_toArray, List.set_cons_zero, List.set_cons_succ]
            refine wpAnyH_take (i := 19) (oi := { dst := some 92, op := Go.Op.binOp Go.BinOp.neq 31 (Go.Operand.tmp 91) (Go.Operand.const (Go.Value.int Go.IntKind.i64 1)) 31, type := 4, pos := _, after := #[{ on := 18, ground := Go.Ground.data }, { on := 13, ground := Go.Ground.guard }], guard := some (13, true) }) (v := undef) rfl (by kernel_rfl) (by kernel_rfl) (by kernel_rfl) (fun _ _ _ h => h) (Or.inr ⟨by rfl, rfl⟩) hHeld ?_
            try simp only [Act.put, List.setIfInBounds_toArray, List.set_cons_zero, List.set_cons_succ]
            refine wpAnyH_take (i := 20) (oi := { dst := some 93, op := Go.Op.pick (Go.Operand.tmp 86) (Go.Operand.tmp 92) (Go.Operand.const (Go.Value.bool false)), type := 4, pos := _, after := #[{ on := 13, ground := Go.Ground.data }, { on := 19, ground := Go.Ground.data }], guard := none }) (v := .bool false) rfl (by kernel_rfl) (by kernel_rfl) (by kernel_rfl) (fun _ _ _ h => h) (Or.inl ⟨by rfl, fun w' hw' => ?_⟩) hHeld ?_
            · first | (go_simp; done) | (go_simp; rfl)
            try simp only [Act.put, List.setIfInBounds_toArray, List.set_cons_zero, List.set_cons_succ]
            refine wpAnyH_done (by kernel_rfl) ?_ _
            clear hHeld
            have hb3 := below_drew W2
            obtain ⟨V, hV⟩ : ∃ V, V = W2.drew := ⟨_, rfl⟩
            rw [← hV] at hb3
            rw [← hV]
            have HJV : Hid _ := HJ2.out.below hb3
            have HBV : Hid (Below w.heap.size w V) := HB2.out.trans (hb3.mono HB2.out.size)
            obtain ⟨hv0, hv1, hv2⟩ := range_cells (r := ⟨st, ow, held⟩) (rangeAt_below HR2.out hb3)
            simp only [Nat.zero_add] at hv0 hv1 hv2
            have HROW : Hid (V.heap[wb]? = some (.cells (fl l).toArray 43 (0, 0))) := HJV.out.rm
            have HFIT : Hid (g * 3 + (#[.int .i64 st, .int .u64 (ow : Int), .int .i64 (held : Int)] : Array Value).size ≤ (fl l).length) := by show g * 3 + 3 ≤ _; rw [fl_len, HJV.out.pm.len]; omega
            have HSAME : Hid (∀ V2, V2 = V.setRow wb (splice (fl l) (g * 3) (#[.int .i64 st, .int .u64 (ow : Int), .int .i64 (held : Int)] : Array Value).toList).toArray → Hid (JM w.heap.size V2 tb gb wb n l) ∧ Hid (Below w.heap.size w V2)) := fun V2 hV2 => by
              have hk : KB wb V V2 := by rw [hV2]; exact KB.set (KB.refl _ _) _
              have hr : AR V2 wb l := by
                have e : splice (fl l) (g * 3) (#[.int .i64 st, .int .u64 (ow : Int), .int .i64 (held : Int)] : Array Value).toList = fl l := by
                  have := fl_splice l g ⟨st, ow, held⟩ (by rw [HJV.out.pm.len]; exact hlg)
                  rw [set_self HRG.out] at this
                  exact this
                rw [hV2, e]
                exact HJV.out.rm.row l
              exact ⟨⟨HJV.out.pm.kb hk HJV.out.d2 HJV.out.d1, hr, HJV.out.d1, HJV.out.d2, Nat.le_trans HJV.out.low hk.1.size, HJV.out.bg, HJV.out.bw⟩, HBV.out.trans (hk.bel HJV.out.bw)⟩
            clear hb3 hV HR2 HRA2
            go_wp2_with (refine wpList_store_segL rfl 43 _ _ rfl wb (g * 3) #[.int .i64 st, .int .u64 (ow : Int), .int .i64 (held : Int)] (fl l) 43 rfl rfl HROW.out (info3a _ rfl) HFIT.out (rL_onea ⟨st, ow, held⟩) ?_; intro V2 hV2; obtain ⟨HJF, HBF⟩ := HSAME.out V2 hV2; clear hV2 HSAME HROW)
            go_roundw
            case rel => exact ⟨g + 1, by omega, by go_num, HJF.out, HBF.out⟩
            case measure => simp [intOf]; omega
          · clear HRK
            have hd2 : decide (2 ≤ st) = false := by simpa using hs2
            go_wp2_with fail
            rw [← hW2]
            clear hW2
            refine wp_region_held_drew (S := Below W2.heap.size W2) (by kernel_rfl) (below_drew _) (fun hHeld => ?_)
            refine wpAnyH_take (i := 0) (oi := { dst := some 73, op := Go.Op.fieldAddr 43 (Go.Operand.tmp 10) 0, type := 0, pos := _, after := #[], guard := none }) (v := .pointer (some ⟨W1.heap.size, 0, none⟩)) rfl (by kernel_rfl) (by kernel_rfl) (by kernel_rfl) (fun _ _ _ h => h) (Or.inl ⟨by rfl, fun w' hw' => ?_⟩) hHeld ?_
            · first | (go_simp; done) | (go_simp; rfl)
            try simp only [Act.put, List.setIfInBounds_toArray, List.set_cons_zero, List.set_cons_succ]
            refine wpAnyH_take (i := 1) (oi := { dst := some 74, op := Go.Op.load 31 (Go.Operand.tmp 73), type := 31, pos := _, after := #[{ on := 0, ground := Go.Ground.data }], guard := none }) (v := .int .i64 st) rfl (by kernel_rfl) (by kernel_rfl) (by kernel_rfl) (fun _ _ _ h => h) (Or.inl ⟨by rfl, fun w' hw' => ?_⟩) hHeld ?_
            · have hcc := (range_cells (r := ⟨st, ow, held⟩) (rangeAt_below HR2.out hw')).1; simp only at hcc; first | (go_simp; done) | (go_simp; rfl)
            try simp only [Act.put, List.setIfInBounds_toArray, List.set_cons_zero, List.set_cons_succ]
            refine wpAnyH_take (i := 2) (oi := { dst := some 75, op := Go.Op.move (Go.Operand.tmp 7), type := 28, pos := _, after := #[], guard := none }) (v := .slice (some ⟨wb, 0, none⟩) n n) rfl (by kernel_rfl) (by kernel_rfl) (by kernel_rfl) (fun _ _ _ h => h) (Or.inl ⟨by rfl, fun w' hw' => ?_⟩) hHeld ?_
            · first | (go_simp; done) | (go_simp; rfl)
            try simp only [Act.put, List.setIfInBounds_toArray, List.set_cons_zero, List.set_cons_succ]
            refine wpAnyH_take (i := 3) (oi := { dst := some 76, op := Go.Op.move (Go.Operand.tmp 9), type := 3, pos := _, after := #[], guard := none }) (v := .int .i64 (g : Int)) rfl (by kernel_rfl) (by kernel_rfl) (by kernel_rfl) (fun _ _ _ h => h) (Or.inl ⟨by rfl, fun w' hw' => ?_⟩) hHeld ?_
            · first | (go_simp; done) | (go_simp; rfl)
            try simp only [Act.put, List.setIfInBounds_toArray, List.set_cons_zero, List.set_cons_succ]
            refine wpAnyH_take (i := 4) (oi := { dst := some 77, op := Go.Op.indexAddr 28 (Go.Operand.tmp 75) (Go.Operand.tmp 76), type := 0, pos := _, after := #[{ on := 2, ground := Go.Ground.data }, { on := 3, ground := Go.Ground.data }], guard := none }) (v := .pointer (some ⟨wb, g * 3, none⟩)) rfl (by kernel_rfl) (by kernel_rfl) (by kernel_rfl) (fun _ _ _ h => h) (Or.inl ⟨by rfl, fun w' hw' => ?_⟩) hHeld ?_
            · first | (go_simp; done) | (go_simp; rfl)
            try simp only [Act.put, List.setIfInBounds_toArray, List.set_cons_zero, List.set_cons_succ]
            refine wpAnyH_take (i := 5) (oi := { dst := some 78, op := Go.Op.fieldAddr 43 (Go.Operand.tmp 77) 0, type := 0, pos := _, after := #[{ on := 4, ground := Go.Ground.data }], guard := none }) (v := .pointer (some ⟨wb, g * 3, none⟩)) rfl (by kernel_rfl) (by kernel_rfl) (by kernel_rfl) (fun _ _ _ h => h) (Or.inl ⟨by rfl, fun w' hw' => ?_⟩) hHeld ?_
            · first | (go_simp; done) | (go_simp; rfl)
            try simp only [Act.put, List.setIfInBounds_toArray, List.set_cons_zero, List.set_cons_succ]
            refine wpAnyH_take (i := 6) (oi := { dst := some 79, op := Go.Op.load 31 (Go.Operand.tmp 78), type := 31, pos := _, after := #[{ on := 5, ground := Go.Ground.data }], guard := none }) (v := .int .i64 st) rfl (by kernel_rfl) (by kernel_rfl) (by kernel_rfl) (fun _ _ _ h => h) (Or.inl ⟨by rfl, fun w' hw' => ?_⟩) hHeld ?_
            · have hcc := (range_cells (r := ⟨st, ow, held⟩) (rangeAt_below HRA2.out hw')).1; simp only at hcc; first | (go_simp; done) | (go_simp; rfl)
            try simp only [Act.put, List.setIfInBounds_toArray, List.set_cons_zero, List.set_cons_succ]
            refine wpAnyH_take (i := 7) (oi := { dst := some 80, op := Go.Op.binOp Go.BinOp.neq 31 (Go.Operand.tmp 74) (Go.Operand.tmp 79) 31, type := 4, pos := _, after := #[{ on := 1, ground := Go.Ground.data }, { on := 6, ground := Go.Ground.data }], guard := none }) (v := .bool false) rfl (by kernel_rfl) (by kernel_rfl) (by kernel_rfl) (fun _ _ _ h => h) (Or.inl ⟨by rfl, fun w' hw' => ?_⟩) hHeld ?_
            · first | (go_simp; done) | (go_simp; rfl)
            try simp only [Act.put, List.setIfInBounds_toArray, List.set_cons_zero, List.set_cons_succ]
            refine wpAnyH_take (i := 8) (oi := { dst := some 81, op := Go.Op.move (Go.Operand.tmp 80), type := 4, pos := _, after := #[{ on := 7, ground := Go.Ground.data }], guard := none }) (v := .bool false) rfl (by kernel_rfl) (by kernel_rfl) (by kernel_rfl) (fun _ _ _ h => h) (Or.inl ⟨by rfl, fun w' hw' => ?_⟩) hHeld ?_
            · first | (go_simp; done) | (go_simp; rfl)
            try simp only [Act.put, List.setIfInBounds_toArray, List.set_cons_zero, List.set_cons_succ]
            refine wpAnyH_take (i := 9) (oi := { dst := some 82, op := Go.Op.fieldAddr 43 (Go.Operand.tmp 10) 0, type := 0, pos := _, after := #[{ on := 8, ground := Go.Ground.guard }], guard := some (8, true) }) (v := undef) rfl (by kernel_rfl) (by kernel_rfl) (by kernel_rfl) (fun _ _ _ h => h) (Or.inr ⟨by rfl, rfl⟩) hHeld ?_
            try simp only [Act.put, List.setIfInBounds_toArray, List.set_cons_zero, List.set_cons_succ]
            refine wpAnyH_take (i := 10) (oi := { dst := some 83, op := Go.Op.load 31 (Go.Operand.tmp 82), type := 31, pos := _, after := #[{ on := 9, ground := Go.Ground.data }, { on := 8, ground := Go.Ground.guard }], guard := some (8, true) }) (v := undef) rfl (by kernel_rfl) (by kernel_rfl) (by kernel_rfl) (fun _ _ _ h => h) (Or.inr ⟨by rfl, rfl⟩) hHeld ?_
            try simp only [Act.put, List.setIfInBounds_toArray, List.set_cons_zero, List.set_cons_succ]
            refine wpAnyH_take (i := 11) (oi := { dst := some 84, op := Go.Op.binOp Go.BinOp.neq 31 (Go.Operand.tmp 83) (Go.Operand.const (Go.Value.int Go.IntKind.i64 1)) 31, type := 4, pos := _, after := #[{ on := 10, ground := Go.Ground.data }, { on := 8, ground := Go.Ground.guard }], guard := some (8, true) }) (v := undef) rfl (by kernel_rfl) (by kernel_rfl) (by kernel_rfl) (fun _ _ _ h => h) (Or.inr ⟨by rfl, rfl⟩) hHeld ?_
            try simp only [Act.put, List.setIfInBounds_toArray, List.set_cons_zero, List.set_cons_succ]
            refine wpAnyH_take (i := 12) (oi := { dst := some 85, op := Go.Op.pick (Go.Operand.tmp 81) (Go.Operand.tmp 84) (Go.Operand.const (Go.Value.bool false)), type := 4, pos := _, after := #[{ on := 8, ground := Go.Ground.data }, { on := 11, ground := Go.Ground.data }], guard := none }) (v := .bool false) rfl (by kernel_rfl) (by kernel_rfl) (by kernel_rfl) (fun _ _ _ h => h) (Or.inl ⟨by rfl, fun w' hw' => ?_⟩) hHeld ?_
            · first | (go_simp; done) | (go_simp; rfl)
            try simp only [Act.put, List.setIfInBounds_toArray, List.set_cons_zero, List.set_cons_succ]
            refine wpAnyH_take (i := 13) (oi := { dst := some 86, op := Go.Op.move (Go.Operand.tmp 85), type := 4, pos := _, after := #[{ on := 12, ground := Go.Ground.data }, { on := 8, ground := Go.Ground.chain }], guard := none }) (v := .bool false) rfl (by kernel_rfl) (by kernel_rfl) (by kernel_rfl) (fun _ _ _ h => h) (Or.inl ⟨by rfl, fun w' hw' => ?_⟩) hHeld ?_
            · first | (go_simp; done) | (go_simp; rfl)
            try simp only [Act.put, List.setIfInBounds_toArray, List.set_cons_zero, List.set_cons_succ]
            refine wpAnyH_take (i := 14) (oi := { dst := some 87, op := Go.Op.move (Go.Operand.tmp 7), type := 28, pos := _, after := #[{ on := 13, ground := Go.Ground.guard }], guard := some (13, true) }) (v := undef) rfl (by kernel_rfl) (by kernel_rfl) (by kernel_rfl) (fun _ _ _ h => h) (Or.inr ⟨by rfl, rfl⟩) hHeld ?_
            try simp only [Act.put, List.setIfInBounds_toArray, List.set_cons_zero, List.set_cons_succ]
            refine wpAnyH_take (i := 15) (oi := { dst := some 88, op := Go.Op.move (Go.Operand.tmp 9), type := 3, pos := _, after := #[{ on := 13, ground := Go.Ground.guard }], guard := some (13, true) }) (v := undef) rfl (by kernel_rfl) (by kernel_rfl) (by kernel_rfl) (fun _ _ _ h => h) (Or.inr ⟨by rfl, rfl⟩) hHeld ?_
            try simp only [Act.put, List.setIfInBounds_toArray, List.set_cons_zero, List.set_cons_succ]
            refine wpAnyH_take (i := 16) (oi := { dst := some 89, op := Go.Op.indexAddr 28 (Go.Operand.tmp 87) (Go.Operand.tmp 88), type := 0, pos := _, after := #[{ on := 14, ground := Go.Ground.data }, { on := 15, ground := Go.Ground.data }, { on := 13, ground := Go.Ground.guard }], guard := some (13, true) }) (v := undef) rfl (by kernel_rfl) (by kernel_rfl) (by kernel_rfl) (fun _ _ _ h => h) (Or.inr ⟨by rfl, rfl⟩) hHeld ?_
            try simp only [Act.put, List.setIfInBounds_toArray, List.set_cons_zero, List.set_cons_succ]
            refine wpAnyH_take (i := 17) (oi := { dst := some 90, op := Go.Op.fieldAddr 43 (Go.Operand.tmp 89) 0, type := 0, pos := _, after := #[{ on := 16, ground := Go.Ground.data }, { on := 13, ground := Go.Ground.guard }], guard := some (13, true) }) (v := undef) rfl (by kernel_rfl) (by kernel_rfl) (by kernel_rfl) (fun _ _ _ h => h) (Or.inr ⟨by rfl, rfl⟩) hHeld ?_
            try simp only [Act.put, List.setIfInBounds_toArray, List.set_cons_zero, List.set_cons_succ]
            refine wpAnyH_take (i := 18) (oi := { dst := some 91, op := Go.Op.load 31 (Go.Operand.tmp 90), type := 31, pos := _, after := #[{ on := 17, ground := Go.Ground.data }, { on := 13, ground := Go.Ground.guard }], guard := some (13, true) }) (v := undef) rfl (by kernel_rfl) (by kernel_rfl) (by kernel_rfl) (fun _ _ _ h => h) (Or.inr ⟨by rfl, rfl⟩) hHeld ?_
            try simp only [Act.put, List.setIfInBounds_toArray, List.set_cons_zero, List.set_cons_succ]
            refine wpAnyH_take (i := 19) (oi := { dst := some 92, op := Go.Op.binOp Go.BinOp.neq 31 (Go.Operand.tmp 91) (Go.Operand.const (Go.Value.int Go.IntKind.i64 1)) 31, type := 4, pos := _, after := #[{ on := 18, ground := Go.Ground.data }, { on := 13, ground := Go.Ground.guard }], guard := some (13, true) }) (v := undef) rfl (by kernel_rfl) (by kernel_rfl) (by kernel_rfl) (fun _ _ _ h => h) (Or.inr ⟨by rfl, rfl⟩) hHeld ?_
            try simp only [Act.put, List.setIfInBounds_toArray, List.set_cons_zero, List.set_cons_succ]
            refine wpAnyH_take (i := 20) (oi := { dst := some 93, op := Go.Op.pick (Go.Operand.tmp 86) (Go.Operand.tmp 92) (Go.Operand.const (Go.Value.bool false)), type := 4, pos := _, after := #[{ on := 13, ground := Go.Ground.data }, { on := 19, ground := Go.Ground.data }], guard := none }) (v := .bool false) rfl (by kernel_rfl) (by kernel_rfl) (by kernel_rfl) (fun _ _ _ h => h) (Or.inl ⟨by rfl, fun w' hw' => ?_⟩) hHeld ?_
            · first | (go_simp; done) | (go_simp; rfl)
            try simp only [Act.put, List.setIfInBounds_toArray, List.set_cons_zero, List.set_cons_succ]
            refine wpAnyH_done (by kernel_rfl) ?_ _
            clear hHeld
            have hb3 := below_drew W2
            obtain ⟨V, hV⟩ : ∃ V, V = W2.drew := ⟨_, rfl⟩
            rw [← hV] at hb3
            rw [← hV]
            have HJV : Hid _ := HJ2.out.below hb3
            have HBV : Hid (Below w.heap.size w V) := HB2.out.trans (hb3.mono HB2.out.size)
            obtain ⟨hv0, hv1, hv2⟩ := range_cells (r := ⟨st, ow, held⟩) (rangeAt_below HR2.out hb3)
            simp only [Nat.zero_add] at hv0 hv1 hv2
            have HROW : Hid (V.heap[wb]? = some (.cells (fl l).toArray 43 (0, 0))) := HJV.out.rm
            have HFIT : Hid (g * 3 + (#[.int .i64 st, .int .u64 (ow : Int), .int .i64 (held : Int)] : Array Value).size ≤ (fl l).length) := by show g * 3 + 3 ≤ _; rw [fl_len, HJV.out.pm.len]; omega
            have HSAME : Hid (∀ V2, V2 = V.setRow wb (splice (fl l) (g * 3) (#[.int .i64 st, .int .u64 (ow : Int), .int .i64 (held : Int)] : Array Value).toList).toArray → Hid (JM w.heap.size V2 tb gb wb n l) ∧ Hid (Below w.heap.size w V2)) := fun V2 hV2 => by
              have hk : KB wb V V2 := by rw [hV2]; exact KB.set (KB.refl _ _) _
              have hr : AR V2 wb l := by
                have e : splice (fl l) (g * 3) (#[.int .i64 st, .int .u64 (ow : Int), .int .i64 (held : Int)] : Array Value).toList = fl l := by
                  have := fl_splice l g ⟨st, ow, held⟩ (by rw [HJV.out.pm.len]; exact hlg)
                  rw [set_self HRG.out] at this
                  exact this
                rw [hV2, e]
                exact HJV.out.rm.row l
              exact ⟨⟨HJV.out.pm.kb hk HJV.out.d2 HJV.out.d1, hr, HJV.out.d1, HJV.out.d2, Nat.le_trans HJV.out.low hk.1.size, HJV.out.bg, HJV.out.bw⟩, HBV.out.trans (hk.bel HJV.out.bw)⟩
            clear hb3 hV HR2 HRA2
            go_wp2_with (refine wpList_store_segL rfl 43 _ _ rfl wb (g * 3) #[.int .i64 st, .int .u64 (ow : Int), .int .i64 (held : Int)] (fl l) 43 rfl rfl HROW.out (info3a _ rfl) HFIT.out (rL_onea ⟨st, ow, held⟩) ?_; intro V2 hV2; obtain ⟨HJF, HBF⟩ := HSAME.out V2 hV2; clear hV2 HSAME HROW)
            go_roundw
            case rel => exact ⟨g + 1, by omega, by go_num, HJF.out, HBF.out⟩
            case measure => simp [intOf]; omega
        · have hge : g = n := by omega
          subst hge
          clear hJ hB hg hlg
          go_wp2_with fail
          go_roundw
          case rel => exact ⟨k + 1, by omega, by go_num, by rw [← HLQ.out]; exact HJ.out, HBK.out⟩
          case measure => simp [intOf]; omega
    · have hke : k = ls.length := by omega
      subst hke
      clear hJ hB hk hlt HLS
      go_wp2_with fail
      refine Calls.mono (known_any W) ?_
      rintro e wk ⟨rfl, hbk⟩
      have HBF : Hid (Below w.heap.size w wk) := HBK.out.trans (hbk.mono HBK.out.size)
      clear hbk
      go_wp2
      go_ret
      exact ⟨rfl, HBF.out⟩
end Go.Proofs.Ytpmbbnmpldeajaa.GC
namespace Go.Proofs.Ytpmbbnmpldeajaa.granuleGoes
open Go.ChangeShapes Go.WideShapes Go.ChangeAt Go.RowKit

theorem own : ownKnob Try.prog.godebug = none := by kernel_rfl
theorem laidOut : laidOutB Try.prog = true := by kernel_rfl
set_option maxHeartbeats 1000000 in
set_option maxRecDepth 100000 in
theorem much (n : Int) (p : Option Addr) (N cap : Nat) (w : World) (h : n < 1 ∨ 20 < n ∨ 100 < N) : Calls Try.prog 6 #[.int .i64 n, .slice p N cap] w fun e w' => e = .returned (.bool true) ∧ Below w.heap.size w w' := by
  by_cases h1 : n < 1
  · clear h
    go_enter Try.func6, Try.ntmps6
    go_wp2_with fail
    refine Calls.mono (GC.known_any w) ?_
    rintro e w1 ⟨rfl, hb⟩
    go_wp2
    go_ret
    exact ⟨rfl, hb⟩
  · by_cases h2 : 20 < n
    · clear h
      go_enter Try.func6, Try.ntmps6
      go_wp2_with fail
      refine Calls.mono (GC.known_any w) ?_
      rintro e w1 ⟨rfl, hb⟩
      go_wp2
      go_ret
      exact ⟨rfl, hb⟩
    · have h3 : (100 : Int) < (N : Int) := by omega
      clear h
      go_enter Try.func6, Try.ntmps6
      go_wp2_with fail
      refine Calls.mono (GC.known_any w) ?_
      rintro e w1 ⟨rfl, hb⟩
      go_wp2
      go_ret
      exact ⟨rfl, hb⟩
theorem walk (n : Int) (v1 : Value) (ls : List GC.Ac) (w : World) (hn : (Lit.int .i64 n).wf = true) (hl : ls.length ≤ 9223372036854775807) (hA : GC.HAc w v1 ls) : Calls Try.prog 6 #[.int .i64 n, v1] w fun e w' => e = .returned (.bool true) ∧ Below w.heap.size w w' := by
  by_cases h1 : n < 1 ∨ 20 < n ∨ 100 < ls.length
  · obtain ⟨p, cap, rfl, _⟩ := hA
    exact much n p ls.length cap w h1
  · have := GC.goes_walk n.toNat v1 ls w (by omega) (by omega) (by omega) hA
    rw [show ((n.toNat : Nat) : Int) = n by omega] at this
    exact this
set_option maxRecDepth 100000 in
theorem lifted (os : Os) (started : os.Started) (H : Type) (enc : TypeId × Value → H) :
    ReturnsInHanded {} Try.checked os 6 .any (Rows.granuleGoesSpec.pre6 enc Try.prog Try.f6 Rows.granuleGoesRow.domain false) (Rows.granuleGoesSpec.post enc Try.prog Try.f6 false true false false) := by
  refine returnsInHanded_of_change (C := Try.checked) own started (by kernel_rfl) Try.func6
    (ChangeSpec.witness6 (enc := enc) (C := Try.checked) false ⟨#[], #[.int .i64 0, .slice none 0 0], []⟩ 8 (by kernel_rfl) (by kernel_rfl) (by kernel_rfl) (by kernel_rfl)) ?_
  intro W base args ds gs before hval0 hW hcnd _
  have hval : ∀ (j : Nat) t v, Try.f6.params[j]? = some t → args[j]? = some v → Value.okWide Try.prog W .any base t v := hval0
  have hW' := hW
  obtain ⟨p, q, hA0, hV, rfl, hfz, hnd⟩ := hW
  have hA : DataW.TrodAll enc Try.prog W 0 (fun _ => true) true Try.f6.params.toList args.toList ds p := hA0
  rw [Try.params6] at hA hval
  obtain ⟨v0, vs0, d0, ds0, p0, q0, hargs, rfl, rfl, h0, r0⟩ := trodAll_cons hA
  obtain ⟨v1, vs1, d1, ds1, p1, q1, rfl, rfl, rfl, h1, r1⟩ := trodAll_cons r0
  obtain ⟨rfl, rfl, rfl⟩ := trodAll_nil r1
  obtain rfl : args = #[v0, v1] := by cases args; simp_all
  obtain ⟨rfl, rfl⟩ := trodVars_none hV
  obtain ⟨n0, rfl, rfl, rfl, w0⟩ := open_int Try.underlying3 (hval 0 3 v0 rfl rfl) h0
  obtain ⟨a1, len1, cap1, rfl⟩ := okWide_slice Try.underlying22 (hval 1 22 v1 rfl rfl)
  have k1 := h1
  have lt1 : ∀ x ∈ p1, x.block < W.heap.size := by obtain ⟨m, hm⟩ := k1; exact DataW.trod_lt m _ _ _ hm
  obtain ⟨l1, hl1, hm1⟩ : ∃ ls, GC.HAc W (.slice a1 len1 cap1) ls ∧ ls.length ≤ 9223372036854775807 := by obtain ⟨fuel, hf⟩ := h1; exact GC.open_acts hf
  clear hA0 hval0
  refine (walk n0 _ l1 W w0 hm1 hl1).mono fun e W' ⟨he, bel⟩ => ?_
  subst he
  exact ⟨_, rfl, _, _, _, [], _, [], hW', trodAll_mk1 (shut_bool Try.underlying4 _), (trodAll_cons_mk (shut_int Try.underlying3 w0) (trodAll_cons_mk (Below.trod laidOut (by kernel_rfl) (of_decide_eq_true (by kernel_rfl)) k1 bel lt1) trodAll_mk0)), rfl, bel.frame _, fun h => by cases h⟩

theorem over : Rows.granuleGoesRow.holds Try.pinned (OpenSpec.ofChange Rows.granuleGoesSpec) :=
  OpenClaim.holds_of_wide 6 Try.f6 rfl rfl rfl rfl rfl rfl rfl ⟨rfl, rfl, rfl, rfl, rfl⟩ rfl rfl rfl rfl rfl (by kernel_rfl) Try.func6 (by kernel_rfl)
    (of_decide_eq_true (by kernel_rfl)) (by unfold Func.isWrapper; first | (rw [if_pos (by decide +kernel)]; kernel_rfl) | (rw [if_neg (by decide +kernel)]; exact ⟨rfl, rfl⟩))
    (fun os started H enc _ => lifted os started H enc)

end Go.Proofs.Ytpmbbnmpldeajaa.granuleGoes
namespace Go.Proofs.Ytpmbbnmpldeajaa
theorem granuleGoes_holds : Rows.GranuleGoesSaid := granuleGoes.over
#print axioms granuleGoes_holds
end Go.Proofs.Ytpmbbnmpldeajaa
