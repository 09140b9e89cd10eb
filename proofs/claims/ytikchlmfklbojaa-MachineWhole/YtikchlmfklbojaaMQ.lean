/- MachinePlays: the walk. -/
import Derived.Test.YtikchlmfklbojaaMP
import Derived.Stop.BytesEq
import Derived.Deep.Cut
import Derived.Deep.CutRange
import Derived.Deep.CutBlock
set_option linter.unusedVariables false
set_option linter.unusedSimpArgs false
namespace Go.Proofs.Ytikchlmfklbojaa.MC
open Go.RowKit

/-- The bytes behind the first k acts. -/
def runA (n : Nat) (ls : List Ac) (k : Nat) : List UInt8 := (ls.take k).foldl (doL n) (List.replicate (128 * n) 0)
theorem runA_succ (n : Nat) (ls : List Ac) (k : Nat) (a : Ac) (h : ls[k]? = some a) : runA n ls (k + 1) = doL n (runA n ls k) a := by
  obtain ⟨hk, rfl⟩ := List.getElem?_eq_some_iff.1 h
  unfold runA
  rw [List.take_succ_eq_append_getElem hk, List.foldl_append]
  rfl
theorem load_mid_g {ops : Array Oper} {rest : List Oper} {o : Oper} {a : Act} {w : World} {Q : Exit → Act → World → Prop} (hw : Region.wanted o (yielded ops a.tmps) = true) (ty : TypeId) (x : Operand) (ho : o.op = .load ty x)
    (b off : Nat) (hx : a.eval x = .pointer (some ⟨b, off, none⟩)) (cs : List Value) (d : TypeDesc) (hc : w.rangeAt b off cs) (hu : Try.prog.underlying ty = some d) (hd : d.isRow = true) (hi : (Try.prog.info? ty).map (·.size) = some cs.length)
    (h : wpList Try.prog ops Q rest (a.put o.dst (.agg cs.toArray)) w) : wpList Try.prog ops Q (o :: rest) a w :=
  wpList_step fun K hK => by rw [if_pos hw]; exact wp_load_mid ty x ho b off hx cs d hc hu hd hi (hK _ _ h)
theorem wpList_buildg {ops : Array Oper} {rest : List Oper} {o : Oper} {a : Act} {Q : Exit → Act → World → Prop} {w : World} (hw : Region.wanted o (yielded ops a.tmps) = true) (t : TypeId) (parts : Array (Nat × Operand)) (ho : o.op = .build t parts) (vals : Array (Nat × Value)) (v : Value) (hp : (parts.map fun (i, x) => (i, a.eval x)) = vals)
    (hr : (Instr.build t vals).run Try.prog w = .ok v w) (h : wpList Try.prog ops Q rest (a.put o.dst v) w) : wpList Try.prog ops Q (o :: rest) a w := by
  refine wpList_step fun K hK => ?_
  rw [if_pos hw]
  unfold Oper.wp
  rw [exec_build a.eval o t parts vals v w ho hp hr]
  exact hK _ _ h
theorem eq_gr (w : World) (xs ys : List UInt8) (hx : xs.length = 128) (hy : ys.length = 128) : (Op.equalIn 10000 45 (.agg (xs.map B8).toArray) (.agg (ys.map B8).toArray)).run Try.prog w = .ok (xs == ys) w :=
  run_equalIn_bytes (P := Try.prog) w 9998 45 5 128 Try.underlying45 Try.underlying5 size_u8 xs ys hx hy
theorem eq_gr_self (w : World) (xs : List UInt8) (hx : xs.length = 128) : (Op.equalIn 10000 45 (.agg (xs.map B8).toArray) (.agg (xs.map B8).toArray)).run Try.prog w = .ok true w := by
  rw [eq_gr w xs xs hx hx, show (xs == xs) = true by simp]
theorem info5 (l : List Value) (h : l.length = 5) : (Try.prog.info? 34).map (·.size) = some l.length := by rw [h]; kernel_rfl

/-- Word's answers. -/
def WEnd (n a : Nat) (L : List UInt8) (w : World) (e : Ending) (w' : World) : Prop := ∃ X E : Int, e = .returned (.tuple #[.int .u64 X, .int .i64 E]) ∧ w = w' ∧ ((a % 8 ≠ 0 ∧ X = 0 ∧ E = 2) ∨ (a % 8 = 0 ∧ wIn n a 8 = false ∧ X = 0 ∧ E = 6) ∨ (a % 8 = 0 ∧ wIn n a 8 = true ∧ X = (wAt L a : Int) ∧ E = 0))
theorem word_any (mb gb n cap a : Nat) (L : List UInt8) (w : World) (h : PR w mb gb n cap L) (ha : a < 18446744073709551616) : Calls Try.prog 13 #[.pointer (some ⟨mb, 0, none⟩), .int .u64 (a : Int)] w fun e w' => WEnd n a L w e w' := by
  have hwf := wfault_any mb n cap _ a w h.cell h.pos h.le ha
  by_cases h8 : a % 8 = 0
  · by_cases hw : wIn n a 8 = true
    · refine (word_ok mb gb n cap a L w h ha h8 hw).mono ?_
      rintro e w1 ⟨rfl, rfl⟩
      exact ⟨_, _, rfl, rfl, .inr (.inr ⟨h8, hw, rfl, rfl⟩)⟩
    · rw [show wF n a = 6 by unfold wF; rw [if_pos h8, if_neg hw]] at hwf
      refine (word_bad _ (a : Int) 6 w (by omega) hwf).mono ?_
      rintro e w1 ⟨rfl, rfl⟩
      exact ⟨_, _, rfl, rfl, .inr (.inl ⟨h8, by simpa using hw, rfl, rfl⟩)⟩
  · rw [show wF n a = 2 by unfold wF; rw [if_neg h8]] at hwf
    refine (word_bad _ (a : Int) 2 w (by omega) hwf).mono ?_
    rintro e w1 ⟨rfl, rfl⟩
    exact ⟨_, _, rfl, rfl, .inl ⟨h8, rfl, rfl⟩⟩
/-- Read's answers. -/
def REnd (n a : Nat) (m : Int) (L : List UInt8) (w : World) (e : Ending) (w' : World) : Prop := ∃ (bv : Value) (E : Int), e = .returned (.tuple #[bv, .int .i64 E]) ∧ Below w.heap.size w w' ∧ ((m < 0 ∧ bv = .slice none 0 0 ∧ E = 2) ∨ (∃ k : Nat, m = (k : Int) ∧ wIn n a k = false ∧ bv = .slice none 0 0 ∧ E = 6) ∨ (∃ k : Nat, m = (k : Int) ∧ wIn n a k = true ∧ bv = .slice (some ⟨w.heap.size, 0, none⟩) k k ∧ E = 0 ∧ AR w' w.heap.size (rdB L a k)))
theorem read_any (mb gb n cap a : Nat) (m : Int) (L : List UInt8) (w : World) (h : PR w mb gb n cap L) (ha : a < 18446744073709551616) (hm : m ≤ 9223372036854775807) : Calls Try.prog 16 #[.pointer (some ⟨mb, 0, none⟩), .int .u64 (a : Int), .int .i64 m] w fun e w' => REnd n a m L w e w' := by
  by_cases h0 : m < 0
  · refine (read_neg mb gb n cap (a : Int) m L w h h0).mono ?_
    rintro e w1 ⟨rfl, rfl⟩
    exact ⟨_, _, rfl, Below.refl _ _, .inl ⟨h0, rfl, rfl⟩⟩
  · obtain ⟨k, rfl⟩ : ∃ k : Nat, m = (k : Int) := ⟨m.toNat, by omega⟩
    by_cases hw : wIn n a k = true
    · refine (read_ok mb gb n cap a k L w h ha (by omega) hw).mono ?_
      rintro e w1 ⟨rfl, hr, hb⟩
      exact ⟨_, _, rfl, hb, .inr (.inr ⟨k, rfl, hw, rfl, rfl, hr⟩)⟩
    · have hw' : wIn n a k = false := by simpa using hw
      refine (read_bad mb gb n cap a k L w h ha (by omega) hw').mono ?_
      rintro e w1 ⟨rfl, rfl⟩
      exact ⟨_, _, rfl, Below.refl _ _, .inr (.inl ⟨k, rfl, hw', rfl, rfl⟩)⟩
theorem rdB_le {n a k : Nat} {L : List UInt8} (hL : L.length = 128 * n) (hw : wIn n a k = true) (h0 : 0 < k) : (rdB L a k).length = k := by
  have := wIn_le hw h0
  unfold rdB
  rw [List.length_take, List.length_drop, hL]; omega
/-- Bytes cut out of a slice. -/
theorem slice_cut (W : World) (b N cap lo hi : Nat) (h1 : lo ≤ hi) (h2 : hi ≤ cap) (h3 : lo < cap) (H : Int) (hH : H = (hi : Int)) : (Instr.slice 32 (.slice (some ⟨b, 0, none⟩) N cap) (some (.int .i64 (lo : Int))) (some (.int .i64 H)) none).run Try.prog W = .ok (.slice (some ⟨b, lo, none⟩) (hi - lo) (cap - lo)) W := by
  subst hH
  have hu : Try.prog.underlying 32 = some (.slice (Try.prog.elem 32)) := by kernel_rfl
  have he : Try.prog.elem 32 = 5 := by kernel_rfl
  rw [run_slice_lh W 32 _ _ _ hu .i64 .i64 _ _ (by omega) (by omega) (by omega), he, size_u8]
  simp only [Result.andThen, sliced]
  rw [if_neg (by omega), Option.map_some, add_none]
  simp
theorem slice_cutA (W : World) (b N cap lo hi : Nat) (h1 : lo ≤ hi) (h2 : hi ≤ cap) (h3 : lo < cap) (H : Int) (hH : H = (hi : Int)) : (Instr.sliceAt 32 (.slice (some ⟨b, 0, none⟩) N cap) (some (.int .i64 (lo : Int))) (some (.int .i64 H)) none).run Try.prog W = .ok (.slice (some ⟨b, lo, none⟩) (hi - lo) (cap - lo)) W := by
  rw [run_sliceAt_slice W 32 _ _ _ _ (by kernel_rfl)]; exact slice_cut W b N cap lo hi h1 h2 h3 H hH
set_option maxHeartbeats 8000000 in
set_option maxRecDepth 100000 in
theorem plays_walk (n a : Nat) (v1 : Value) (ls : List Ac) (m g : Int) (w : World) (h1 : 1 ≤ n) (h2 : n ≤ 64) (hl : ls.length ≤ 60) (ha : a < 18446744073709551616) (hm0 : -9223372036854775808 ≤ m) (hm1 : m ≤ 9223372036854775807) (hA : HAc w v1 ls) :
    Calls Try.prog 3 #[.int .i64 (n : Int), v1, .int .u64 (a : Int), .int .i64 m, .int .i64 g] w fun e w' => e = .returned (.bool true) ∧ Below w.heap.size w w' := by
  obtain ⟨p1, c1, rfl, hls⟩ := hA
  have HLS : Hid _ := hls
  have HNW : Hid (Calls Try.prog 9 #[.int .i64 (n : Int)] w fun e w' => NewEnd w n e w') := new_ok n w (by omega) (by omega)
  have HNR : Hid (∀ W, Calls Try.prog 10 #[.int .i64 (n : Int)] W fun e w' => RNewEnd W n e w') := fun W => rnew_ok n W (by omega) (by omega)
  clear hls
  go_enter Try.func3, Try.ntmps3
  go_wp2_with fail
  refine Calls.mono HNW.out ?_
  rintro e w1 ⟨mb, gb, rfl, hP, hmb, hgb, hb1⟩
  have HNR1 : Hid _ := HNR.out w1
  clear HNW HNR
  have HP : Hid _ := hP
  have HB1 : Hid _ := hb1
  clear hP hb1
  go_wp2_with fail
  refine Calls.mono HNR1.out ?_
  rintro e w2 ⟨rb, bb, rfl, hR, hrb, hbb, hb2⟩
  have HB2 : Hid (Below w.heap.size w w2) := HB1.out.trans (hb2.mono HB1.out.size)
  have hJ : JM w.heap.size w2 mb gb rb bb n (runA n ls 0) := by
    have hg := row_lt HP.out.row
    have hm := row_lt HP.out.head
    have hs := HB1.out.size
    exact ⟨HP.out.below hb2, hR, by omega, by omega, by omega, HB2.out.size, hgb, by omega⟩
  have HG : Hid (Calls Try.prog 11 #[.pointer (some ⟨mb, 0, none⟩)] w2 fun e w' => e = .returned (.int .i64 (n : Int)) ∧ w2 = w') := granules_of _ _ n _ w2 (list_at mb _ w2 hJ.pm.cell)
  have HJ0 : Hid _ := hJ
  clear hJ hR hb2 HNR1 HP HB1 hrb hbb hmb hgb
  go_wp2_with fail
  refine Calls.mono HG.out ?_
  rintro e wx ⟨rfl, rfl⟩
  clear HG
  go_wp2
  go_loopw [14] (fun i wr => ∃ k : Nat, k ≤ ls.length ∧ i = .int .i64 k ∧ JM w.heap.size wr mb gb rb bb n (runA n ls k) ∧ Below w.heap.size w wr) (fun i _ => ls.length - (intOf i).toNat)
  case atStart => exact ⟨0, Nat.zero_le _, rfl, HJ0.out, HB2.out⟩
  case round =>
    clear HJ0 HB2
    obtain ⟨k, hk, rfl, hJ, hB⟩ := hrel
    generalize wr = W at *
    have HJ : Hid _ := hJ
    have HBK : Hid (Below w.heap.size w W) := hB
    by_cases hlt : k < ls.length
    · have hkI : (k : Int) < (ls.length : Int) := by omega
      obtain ⟨ac, hac⟩ : ∃ ac, ls[k]? = some ac := ⟨_, List.getElem?_eq_getElem hlt⟩
      obtain ⟨ag, ao, dv, rfl, hra, hok, hbd⟩ := HLS.out k ac hac
      obtain ⟨pd, cd, rfl, _⟩ := hb_any hbd
      have hra2 := rangeAt_below hra hB
      have hc4 : W.cell? ⟨ag, ao + k * 5 + 4, none⟩ = some (.slice pd ac.bytes.length cd) := hra2 4 _ rfl
      by_cases hbig : 1000 < ac.bytes.length
      · have hbI : (1000 : Int) < (ac.bytes.length : Int) := by omega
        clear hra hra2 hok hbd hac hJ hB
        go_wp2_with fail
        refine Calls.mono (known_any _) ?_
        rintro e wk ⟨rfl, hbk⟩
        have HBF : Hid (Below w.heap.size w wk) := HBK.out.trans (hbk.mono HBK.out.size)
        clear hbk
        go_wp2
        go_ret
        exact ⟨rfl, HBF.out⟩
      · have hbI : ¬ (1000 : Int) < (ac.bytes.length : Int) := by omega
        have hdo := do_any w.heap.size mb gb rb bb n (runA n ls k) ac (.slice pd ac.bytes.length cd) W hJ hok (fun X hX => hbd.below (hB.trans hX))
        rw [← runA_succ n ls k ac hac] at hdo
        have HDO : Hid _ := hdo
        obtain ⟨AL, hAL⟩ : ∃ L, L = acL ac (.slice pd ac.bytes.length cd) := ⟨_, rfl⟩
        rw [← hAL] at hra2 HDO
        have HRA : Hid _ := hra2
        have HAI : Hid _ := info5 AL (by rw [hAL]; rfl)
        clear hra hra2 hok hbd hac hJ hB hAL hdo
        go_wp2_with (refine wpList_load_mid rfl 34 _ rfl ag (ao + k * 5) rfl AL _ HRA.out Try.underlying34 rfl HAI.out ?_)
        refine Calls.mono HDO.out ?_
        rintro e W2 ⟨rfl, hJ2, hK2⟩
        have HB2 : Hid (Below w.heap.size w W2) := HBK.out.trans (HJ.out.bel hK2)
        have HJ2 : Hid _ := hJ2
        clear hJ2 hK2 HDO HRA HAI
        go_wp2
        go_roundw
        case rel => exact ⟨k + 1, by omega, by go_num, HJ2.out, HB2.out⟩
        case measure => simp [intOf]; omega
    · have hke : k = ls.length := by omega
      subst hke
      clear hJ hB hk hlt HLS
      generalize runA n ls ls.length = L at *
      have HWD : Hid _ := word_any mb gb n n a L W HJ.out.pm.pr ha
      go_wp2_with fail
      refine Calls.mono HWD.out ?_
      rintro e wx ⟨X0, E0, rfl, rfl, hW⟩
      clear HWD
      have HW : Hid _ := hW
      clear hW
      go_upto_block 2 with fail
      go_cut [15] from 88 to 117 (fun x X => x = .int .u64 X0 ∧ X = W)
      case first =>
        rcases HW.out with ⟨h8, rfl, rfl⟩ | ⟨h8, hwi, rfl, rfl⟩ | ⟨h8, hwi, rfl, rfl⟩
        · have h8I : ((a : Int) % 8 != 0) = true := by rw [bne_iff_ne]; omega
          clear h8 HW
          go_wp2_with fail
          go_meet
          case rel => exact ⟨rfl, rfl⟩
        · have h8I : ((a : Int) % 8 != 0) = false := by rw [bne_eq_false_iff_eq]; omega
          clear h8 HW
          -- the document's Within at W: 8 how many, false the answer
          have HRI : Hid (Calls Try.prog 14 #[.pointer (some ⟨rb, 0, none⟩), .int .u64 (a : Int), .int .i64 8] W fun e w' => e = .returned (.bool false) ∧ W = w') := by
            show Calls _ _ _ _ _
            have := rwithin_any rb bb n (128 * n) a 8 L W HJ.out.rm.rr ha (by omega)
            rw [hwi] at this
            exact this
          go_wp2_with fail
          refine Calls.mono HRI.out ?_
          rintro e wx ⟨rfl, rfl⟩
          clear HRI
          go_wp2_with fail
          go_meet
          case rel => exact ⟨rfl, rfl⟩
        · have h8I : ((a : Int) % 8 != 0) = false := by rw [bne_eq_false_iff_eq]; omega
          have HRD : Hid _ := rword_ok rb bb n (128 * n) a L W HJ.out.rm.rr (wIn_le hwi (by omega))
          generalize wAt L a = WA at *
          clear h8 HW
          -- the document's Within at W: 8 how many, true the answer
          have HRI : Hid (Calls Try.prog 14 #[.pointer (some ⟨rb, 0, none⟩), .int .u64 (a : Int), .int .i64 8] W fun e w' => e = .returned (.bool true) ∧ W = w') := by
            show Calls _ _ _ _ _
            have := rwithin_any rb bb n (128 * n) a 8 L W HJ.out.rm.rr ha (by omega)
            rw [hwi] at this
            exact this
          go_wp2_with fail
          refine Calls.mono HRI.out ?_
          rintro e wx ⟨rfl, rfl⟩
          clear HRI
          go_wp2_with fail
          refine Calls.mono HRD.out ?_
          rintro e wx ⟨rfl, rfl⟩
          go_wp2_with fail
          go_meet
          case rel => exact ⟨rfl, rfl⟩
      case rest =>
        obtain ⟨rfl, rfl⟩ := hcut
        clear HW
        generalize wc = W at *
        have HRA : Hid _ := read_any mb gb n n a m L W HJ.out.pm.pr ha hm1
        go_wp2_with fail
        refine Calls.mono HRA.out ?_
        rintro e W2 ⟨bv, E1, rfl, hb2, hR⟩
        have HR : Hid _ := hR
        have HJ2 : Hid _ := HJ.out.below hb2
        have HBK2 : Hid (Below w.heap.size w W2) := HBK.out.trans (hb2.mono HBK.out.size)
        clear hR hb2 HRA HJ HBK
        have HJ : Hid _ := HJ2.out
        have HBK : Hid _ := HBK2.out
        clear HJ2 HBK2
        go_upto_block 3 with fail
        go_cut [16] from 125 to 176 (fun b X => b = bv ∧ Below W2.heap.size W2 X)
        case first =>
          rcases HR.out with ⟨h0, rfl, rfl⟩ | ⟨k, rfl, hwi, rfl, rfl⟩ | ⟨k, rfl, hwi, rfl, rfl, har⟩
          · clear HR
            go_wp2_with fail
            go_meet
            case rel => exact ⟨rfl, Below.refl _ _⟩
          · clear HR
            -- the document's Within at W2: k how many, false the answer
            have HRI : Hid (Calls Try.prog 14 #[.pointer (some ⟨rb, 0, none⟩), .int .u64 (a : Int), .int .i64 (k : Int)] W2 fun e w' => e = .returned (.bool false) ∧ W2 = w') := by
              show Calls _ _ _ _ _
              have := rwithin_any rb bb n (128 * n) a k L W2 HJ.out.rm.rr ha (by omega)
              rw [hwi] at this
              exact this
            go_wp2_with fail
            refine Calls.mono HRI.out ?_
            rintro e wx ⟨rfl, rfl⟩
            clear HRI
            go_wp2_with fail
            go_meet
            case rel => exact ⟨rfl, Below.refl _ _⟩
          · clear HR
            by_cases hk0 : k = 0
            · subst hk0
              have hgt : ((0 : Int) < ((0 : Nat) : Int)) = False := by simp
              -- the document's Within at W2: 0 how many, true the answer
              have HRI : Hid (Calls Try.prog 14 #[.pointer (some ⟨rb, 0, none⟩), .int .u64 (a : Int), .int .i64 ((0 : Nat) : Int)] W2 fun e w' => e = .returned (.bool true) ∧ W2 = w') := by
                show Calls _ _ _ _ _
                have := rwithin_any rb bb n (128 * n) a 0 L W2 HJ.out.rm.rr ha (by omega)
                rw [hwi] at this
                exact this
              go_wp2_with fail
              refine Calls.mono HRI.out ?_
              rintro e wx ⟨rfl, rfl⟩
              clear HRI
              go_wp2_with fail
              refine wp_region_held_drew (S := Below W2.heap.size W2) (by kernel_rfl) (Below.drew (Below.refl _ _)) (fun hHeld => ?_)
              refine wpAnyH_take (i := 0) (oi := { dst := some 125, op := Go.Op.move (Go.Operand.tmp 12), type := 26, pos := _, after := #[], guard := none }) (v := .int .i64 0) rfl (by kernel_rfl) (by kernel_rfl) (by kernel_rfl) (fun _ _ _ h => h) (Or.inl ⟨by rfl, fun w' hw' => ?_⟩) hHeld ?_
              · first | (go_simp; done) | (go_simp; rfl)
              try simp only [Act.put, List.setIfInBounds_toArray, List.set_cons_zero, List.set_cons_succ]
              refine wpAnyH_take (i := 1) (oi := { dst := some 126, op := Go.Op.binOp Go.BinOp.neq 26 (Go.Operand.tmp 125) (Go.Operand.const (Go.Value.int Go.IntKind.i64 0)) 26, type := 4, pos := _, after := #[{ on := 0, ground := Go.Ground.data }], guard := none }) (v := .bool false) rfl (by kernel_rfl) (by kernel_rfl) (by kernel_rfl) (fun _ _ _ h => h) (Or.inl ⟨by rfl, fun w' hw' => ?_⟩) hHeld ?_
              · first | (go_simp; done) | (go_simp; rfl)
              try simp only [Act.put, List.setIfInBounds_toArray, List.set_cons_zero, List.set_cons_succ]
              refine wpAnyH_take (i := 2) (oi := { dst := some 127, op := Go.Op.move (Go.Operand.tmp 126), type := 4, pos := _, after := #[{ on := 1, ground := Go.Ground.data }], guard := none }) (v := .bool false) rfl (by kernel_rfl) (by kernel_rfl) (by kernel_rfl) (fun _ _ _ h => h) (Or.inl ⟨by rfl, fun w' hw' => ?_⟩) hHeld ?_
              · first | (go_simp; done) | (go_simp; rfl)
              try simp only [Act.put, List.setIfInBounds_toArray, List.set_cons_zero, List.set_cons_succ]
              refine wpAnyH_take (i := 3) (oi := { dst := some 128, op := Go.Op.move (Go.Operand.tmp 16), type := 32, pos := _, after := #[{ on := 2, ground := Go.Ground.guard }], guard := some (2, false) }) (v := .slice (some ⟨W.heap.size, 0, none⟩) 0 0) rfl (by kernel_rfl) (by kernel_rfl) (by kernel_rfl) (fun _ _ _ h => h) (Or.inl ⟨by rfl, fun w' hw' => ?_⟩) hHeld ?_
              · first | (go_simp; done) | (go_simp; rfl)
              try simp only [Act.put, List.setIfInBounds_toArray, List.set_cons_zero, List.set_cons_succ]
              refine wpAnyH_take (i := 4) (oi := { dst := some 129, op := Go.Op.call { callee := Go.Callee.builtin Go.Builtin.len, args := #[Go.Operand.tmp 128], argTypes := #[32] }, type := 3, pos := _, after := #[{ on := 3, ground := Go.Ground.data }, { on := 2, ground := Go.Ground.guard }], guard := some (2, false) }) (v := .int .i64 0) rfl (by kernel_rfl) (by kernel_rfl) (by kernel_rfl) (fun _ _ _ h => h) (Or.inl ⟨by rfl, fun w' hw' => ?_⟩) hHeld ?_
              · first | (go_simp; done) | (go_simp; rfl)
              try simp only [Act.put, List.setIfInBounds_toArray, List.set_cons_zero, List.set_cons_succ]
              refine wpAnyH_take (i := 5) (oi := { dst := some 130, op := Go.Op.move (Go.Operand.tmp 3), type := 3, pos := _, after := #[{ on := 2, ground := Go.Ground.guard }], guard := some (2, false) }) (v := .int .i64 0) rfl (by kernel_rfl) (by kernel_rfl) (by kernel_rfl) (fun _ _ _ h => h) (Or.inl ⟨by rfl, fun w' hw' => ?_⟩) hHeld ?_
              · first | (go_simp; done) | (go_simp; rfl)
              try simp only [Act.put, List.setIfInBounds_toArray, List.set_cons_zero, List.set_cons_succ]
              refine wpAnyH_take (i := 6) (oi := { dst := some 131, op := Go.Op.binOp Go.BinOp.neq 3 (Go.Operand.tmp 129) (Go.Operand.tmp 130) 3, type := 4, pos := _, after := #[{ on := 4, ground := Go.Ground.data }, { on := 5, ground := Go.Ground.data }, { on := 2, ground := Go.Ground.guard }], guard := some (2, false) }) (v := .bool false) rfl (by kernel_rfl) (by kernel_rfl) (by kernel_rfl) (fun _ _ _ h => h) (Or.inl ⟨by rfl, fun w' hw' => ?_⟩) hHeld ?_
              · first | (go_simp; done) | (go_simp; rfl)
              try simp only [Act.put, List.setIfInBounds_toArray, List.set_cons_zero, List.set_cons_succ]
              refine wpAnyH_take (i := 7) (oi := { dst := some 132, op := Go.Op.pick (Go.Operand.tmp 127) (Go.Operand.const (Go.Value.bool true)) (Go.Operand.tmp 131), type := 4, pos := _, after := #[{ on := 2, ground := Go.Ground.data }, { on := 6, ground := Go.Ground.data }], guard := none }) (v := .bool false) rfl (by kernel_rfl) (by kernel_rfl) (by kernel_rfl) (fun _ _ _ h => h) (Or.inl ⟨by rfl, fun w' hw' => ?_⟩) hHeld ?_
              · first | (go_simp; done) | (go_simp; rfl)
              try simp only [Act.put, List.setIfInBounds_toArray, List.set_cons_zero, List.set_cons_succ]
              refine wpAnyH_take (i := 8) (oi := { dst := some 133, op := Go.Op.move (Go.Operand.tmp 132), type := 4, pos := _, after := #[{ on := 7, ground := Go.Ground.data }, { on := 2, ground := Go.Ground.chain }], guard := none }) (v := .bool false) rfl (by kernel_rfl) (by kernel_rfl) (by kernel_rfl) (fun _ _ _ h => h) (Or.inl ⟨by rfl, fun w' hw' => ?_⟩) hHeld ?_
              · first | (go_simp; done) | (go_simp; rfl)
              try simp only [Act.put, List.setIfInBounds_toArray, List.set_cons_zero, List.set_cons_succ]
              refine wpAnyH_take (i := 9) (oi := { dst := some 134, op := Go.Op.move (Go.Operand.tmp 3), type := 3, pos := _, after := #[{ on := 8, ground := Go.Ground.guard }], guard := some (8, false) }) (v := .int .i64 0) rfl (by kernel_rfl) (by kernel_rfl) (by kernel_rfl) (fun _ _ _ h => h) (Or.inl ⟨by rfl, fun w' hw' => ?_⟩) hHeld ?_
              · first | (go_simp; done) | (go_simp; rfl)
              try simp only [Act.put, List.setIfInBounds_toArray, List.set_cons_zero, List.set_cons_succ]
              refine wpAnyH_take (i := 10) (oi := { dst := some 135, op := Go.Op.binOp Go.BinOp.gtr 3 (Go.Operand.tmp 134) (Go.Operand.const (Go.Value.int Go.IntKind.i64 0)) 3, type := 4, pos := _, after := #[{ on := 9, ground := Go.Ground.data }, { on := 8, ground := Go.Ground.guard }], guard := some (8, false) }) (v := .bool false) rfl (by kernel_rfl) (by kernel_rfl) (by kernel_rfl) (fun _ _ _ h => h) (Or.inl ⟨by rfl, fun w' hw' => ?_⟩) hHeld ?_
              · first | (go_simp; done) | (go_simp; rfl)
              try simp only [Act.put, List.setIfInBounds_toArray, List.set_cons_zero, List.set_cons_succ]
              refine wpAnyH_take (i := 11) (oi := { dst := some 136, op := Go.Op.move (Go.Operand.tmp 135), type := 4, pos := _, after := #[{ on := 10, ground := Go.Ground.data }, { on := 8, ground := Go.Ground.chain }, { on := 8, ground := Go.Ground.guard }], guard := some (8, false) }) (v := .bool false) rfl (by kernel_rfl) (by kernel_rfl) (by kernel_rfl) (fun _ _ _ h => h) (Or.inl ⟨by rfl, fun w' hw' => ?_⟩) hHeld ?_
              · first | (go_simp; done) | (go_simp; rfl)
              try simp only [Act.put, List.setIfInBounds_toArray, List.set_cons_zero, List.set_cons_succ]
              refine wpAnyH_take (i := 12) (oi := { dst := some 137, op := Go.Op.move (Go.Operand.tmp 16), type := 32, pos := _, after := #[{ on := 11, ground := Go.Ground.guard }], guard := some (11, true) }) (v := undef) rfl (by kernel_rfl) (by kernel_rfl) (by kernel_rfl) (fun _ _ _ h => h) (Or.inr ⟨by rfl, rfl⟩) hHeld ?_
              try simp only [Act.put, List.setIfInBounds_toArray, List.set_cons_zero, List.set_cons_succ]
              refine wpAnyH_take (i := 13) (oi := { dst := some 138, op := Go.Op.convert 32 9 (Go.Operand.tmp 137), type := 9, pos := _, after := #[{ on := 12, ground := Go.Ground.data }, { on := 11, ground := Go.Ground.guard }], guard := some (11, true) }) (v := undef) rfl (by kernel_rfl) (by kernel_rfl) (by kernel_rfl) (fun _ _ _ h => h) (Or.inr ⟨by rfl, rfl⟩) hHeld ?_
              try simp only [Act.put, List.setIfInBounds_toArray, List.set_cons_zero, List.set_cons_succ]
              refine wpAnyH_take (i := 14) (oi := { dst := some 139, op := Go.Op.move (Go.Operand.tmp 13), type := 29, pos := _, after := #[{ on := 11, ground := Go.Ground.guard }], guard := some (11, true) }) (v := undef) rfl (by kernel_rfl) (by kernel_rfl) (by kernel_rfl) (fun _ _ _ h => h) (Or.inr ⟨by rfl, rfl⟩) hHeld ?_
              try simp only [Act.put, List.setIfInBounds_toArray, List.set_cons_zero, List.set_cons_succ]
              refine wpAnyH_take (i := 15) (oi := { dst := some 140, op := Go.Op.nilCheck (Go.Operand.tmp 139), type := 0, pos := _, after := #[{ on := 14, ground := Go.Ground.data }, { on := 11, ground := Go.Ground.guard }], guard := some (11, true) }) (v := undef) rfl (by kernel_rfl) (by kernel_rfl) (by kernel_rfl) (fun _ _ _ h => h) (Or.inr ⟨by rfl, rfl⟩) hHeld ?_
              try simp only [Act.put, List.setIfInBounds_toArray, List.set_cons_zero, List.set_cons_succ]
              refine wpAnyH_take (i := 16) (oi := { dst := some 141, op := Go.Op.fieldAddr 43 (Go.Operand.tmp 140) 0, type := 0, pos := _, after := #[{ on := 15, ground := Go.Ground.data }, { on := 11, ground := Go.Ground.guard }], guard := some (11, true) }) (v := undef) rfl (by kernel_rfl) (by kernel_rfl) (by kernel_rfl) (fun _ _ _ h => h) (Or.inr ⟨by rfl, rfl⟩) hHeld ?_
              try simp only [Act.put, List.setIfInBounds_toArray, List.set_cons_zero, List.set_cons_succ]
              refine wpAnyH_take (i := 17) (oi := { dst := some 142, op := Go.Op.load 32 (Go.Operand.tmp 141), type := 32, pos := _, after := #[{ on := 16, ground := Go.Ground.data }, { on := 11, ground := Go.Ground.guard }], guard := some (11, true) }) (v := undef) rfl (by kernel_rfl) (by kernel_rfl) (by kernel_rfl) (fun _ _ _ h => h) (Or.inr ⟨by rfl, rfl⟩) hHeld ?_
              try simp only [Act.put, List.setIfInBounds_toArray, List.set_cons_zero, List.set_cons_succ]
              refine wpAnyH_take (i := 18) (oi := { dst := some 143, op := Go.Op.move (Go.Operand.tmp 2), type := 23, pos := _, after := #[{ on := 11, ground := Go.Ground.guard }], guard := some (11, true) }) (v := undef) rfl (by kernel_rfl) (by kernel_rfl) (by kernel_rfl) (fun _ _ _ h => h) (Or.inr ⟨by rfl, rfl⟩) hHeld ?_
              try simp only [Act.put, List.setIfInBounds_toArray, List.set_cons_zero, List.set_cons_succ]
              refine wpAnyH_take (i := 19) (oi := { dst := some 144, op := Go.Op.convert 23 3 (Go.Operand.tmp 143), type := 3, pos := _, after := #[{ on := 18, ground := Go.Ground.data }, { on := 11, ground := Go.Ground.guard }], guard := some (11, true) }) (v := undef) rfl (by kernel_rfl) (by kernel_rfl) (by kernel_rfl) (fun _ _ _ h => h) (Or.inr ⟨by rfl, rfl⟩) hHeld ?_
              try simp only [Act.put, List.setIfInBounds_toArray, List.set_cons_zero, List.set_cons_succ]
              refine wpAnyH_take (i := 20) (oi := { dst := some 145, op := Go.Op.move (Go.Operand.tmp 2), type := 23, pos := _, after := #[{ on := 11, ground := Go.Ground.guard }], guard := some (11, true) }) (v := undef) rfl (by kernel_rfl) (by kernel_rfl) (by kernel_rfl) (fun _ _ _ h => h) (Or.inr ⟨by rfl, rfl⟩) hHeld ?_
              try simp only [Act.put, List.setIfInBounds_toArray, List.set_cons_zero, List.set_cons_succ]
              refine wpAnyH_take (i := 21) (oi := { dst := some 146, op := Go.Op.convert 23 3 (Go.Operand.tmp 145), type := 3, pos := _, after := #[{ on := 20, ground := Go.Ground.data }, { on := 11, ground := Go.Ground.guard }], guard := some (11, true) }) (v := undef) rfl (by kernel_rfl) (by kernel_rfl) (by kernel_rfl) (fun _ _ _ h => h) (Or.inr ⟨by rfl, rfl⟩) hHeld ?_
              try simp only [Act.put, List.setIfInBounds_toArray, List.set_cons_zero, List.set_cons_succ]
              refine wpAnyH_take (i := 22) (oi := { dst := some 147, op := Go.Op.move (Go.Operand.tmp 3), type := 3, pos := _, after := #[{ on := 11, ground := Go.Ground.guard }], guard := some (11, true) }) (v := undef) rfl (by kernel_rfl) (by kernel_rfl) (by kernel_rfl) (fun _ _ _ h => h) (Or.inr ⟨by rfl, rfl⟩) hHeld ?_
              try simp only [Act.put, List.setIfInBounds_toArray, List.set_cons_zero, List.set_cons_succ]
              refine wpAnyH_take (i := 23) (oi := { dst := some 148, op := Go.Op.binOp Go.BinOp.add 3 (Go.Operand.tmp 146) (Go.Operand.tmp 147) 3, type := 3, pos := _, after := #[{ on := 21, ground := Go.Ground.data }, { on := 22, ground := Go.Ground.data }, { on := 11, ground := Go.Ground.guard }], guard := some (11, true) }) (v := undef) rfl (by kernel_rfl) (by kernel_rfl) (by kernel_rfl) (fun _ _ _ h => h) (Or.inr ⟨by rfl, rfl⟩) hHeld ?_
              try simp only [Act.put, List.setIfInBounds_toArray, List.set_cons_zero, List.set_cons_succ]
              refine wpAnyH_take (i := 24) (oi := { dst := some 149, op := Go.Op.slice 32 (Go.Operand.tmp 142) (some (Go.Operand.tmp 144)) (some (Go.Operand.tmp 148)) none, type := 32, pos := _, after := #[{ on := 17, ground := Go.Ground.data }, { on := 19, ground := Go.Ground.data }, { on := 23, ground := Go.Ground.data }, { on := 11, ground := Go.Ground.guard }], guard := some (11, true) }) (v := undef) rfl (by kernel_rfl) (by kernel_rfl) (by kernel_rfl) (fun _ _ _ h => h) (Or.inr ⟨by rfl, rfl⟩) hHeld ?_
              try simp only [Act.put, List.setIfInBounds_toArray, List.set_cons_zero, List.set_cons_succ]
              refine wpAnyH_take (i := 25) (oi := { dst := some 150, op := Go.Op.convert 32 9 (Go.Operand.tmp 149), type := 9, pos := _, after := #[{ on := 24, ground := Go.Ground.data }, { on := 11, ground := Go.Ground.guard }], guard := some (11, true) }) (v := undef) rfl (by kernel_rfl) (by kernel_rfl) (by kernel_rfl) (fun _ _ _ h => h) (Or.inr ⟨by rfl, rfl⟩) hHeld ?_
              try simp only [Act.put, List.setIfInBounds_toArray, List.set_cons_zero, List.set_cons_succ]
              refine wpAnyH_take (i := 26) (oi := { dst := some 151, op := Go.Op.binOp Go.BinOp.neq 9 (Go.Operand.tmp 138) (Go.Operand.tmp 150) 9, type := 4, pos := _, after := #[{ on := 13, ground := Go.Ground.data }, { on := 25, ground := Go.Ground.data }, { on := 11, ground := Go.Ground.guard }], guard := some (11, true) }) (v := undef) rfl (by kernel_rfl) (by kernel_rfl) (by kernel_rfl) (fun _ _ _ h => h) (Or.inr ⟨by rfl, rfl⟩) hHeld ?_
              try simp only [Act.put, List.setIfInBounds_toArray, List.set_cons_zero, List.set_cons_succ]
              refine wpAnyH_take (i := 27) (oi := { dst := some 152, op := Go.Op.pick (Go.Operand.tmp 136) (Go.Operand.tmp 151) (Go.Operand.const (Go.Value.bool false)), type := 4, pos := _, after := #[{ on := 11, ground := Go.Ground.data }, { on := 26, ground := Go.Ground.data }, { on := 8, ground := Go.Ground.guard }], guard := some (8, false) }) (v := .bool false) rfl (by kernel_rfl) (by kernel_rfl) (by kernel_rfl) (fun _ _ _ h => h) (Or.inl ⟨by rfl, fun w' hw' => ?_⟩) hHeld ?_
              · first | (go_simp; done) | (go_simp; rfl)
              try simp only [Act.put, List.setIfInBounds_toArray, List.set_cons_zero, List.set_cons_succ]
              refine wpAnyH_take (i := 28) (oi := { dst := some 153, op := Go.Op.pick (Go.Operand.tmp 133) (Go.Operand.const (Go.Value.bool true)) (Go.Operand.tmp 152), type := 4, pos := _, after := #[{ on := 8, ground := Go.Ground.data }, { on := 27, ground := Go.Ground.data }], guard := none }) (v := .bool false) rfl (by kernel_rfl) (by kernel_rfl) (by kernel_rfl) (fun _ _ _ h => h) (Or.inl ⟨by rfl, fun w' hw' => ?_⟩) hHeld ?_
              · first | (go_simp; done) | (go_simp; rfl)
              try simp only [Act.put, List.setIfInBounds_toArray, List.set_cons_zero, List.set_cons_succ]
              refine wpAnyH_done (by kernel_rfl) ?_ _
              go_wp2_with fail
              go_meet
              case rel => exact ⟨rfl, Below.drew (Below.refl _ _)⟩
            · have hk1 : 0 < k := by omega
              have hle := wIn_le hwi hk1
              have hrl := rdB_le HJ.out.pm.len hwi hk1
              have HCV1 : Hid (∀ X, Below W2.heap.size W2 X → (convert 32 9 (.slice (some ⟨W.heap.size, 0, none⟩) k k)).run Try.prog X = .ok (.string (txt (rdB L a k))) X) := fun X hX => conv_hb X _ _ (AR.hb ((hX.block _ (row_lt har)).trans har) hrl.symm (by omega))
              have HCV2 : Hid (∀ X, Below W2.heap.size W2 X → (convert 32 9 (.slice (some ⟨bb, a, none⟩) k (128 * n - a))).run Try.prog X = .ok (.string (txt (rdB L a k))) X) := fun X hX => conv_hb X _ _ (hb_range hrl.symm (by omega) (by unfold maxLen; omega) (by
                have := rangeAt_part (HJ.out.below hX).rm.rr.row a k
                rw [← List.map_drop, ← List.map_take, Nat.zero_add] at this
                exact this))
              have HCE : Hid (∀ X, Below W2.heap.size W2 X → X.cell? ⟨rb, 0, none⟩ = some (.slice (some ⟨bb, 0, none⟩) (128 * n) (128 * n))) := fun X hX => (HJ.out.below hX).rm.cell
              have hs1 : ∀ X, (Instr.slice 32 (.slice (some ⟨bb, 0, none⟩) (128 * n) (128 * n)) (some (.int .i64 (a : Int))) (some (.int .i64 ((a : Int) + (k : Int)))) none).run Try.prog X = .ok (.slice (some ⟨bb, a, none⟩) k (128 * n - a)) X := fun X => by
                have := slice_cut X bb (128 * n) (128 * n) a (a + k) (by omega) (by omega) (by omega) ((a : Int) + (k : Int)) (by omega)
                rw [Nat.add_sub_cancel_left] at this; exact this
              have hs2 : ∀ X, (Instr.sliceAt 32 (.slice (some ⟨bb, 0, none⟩) (128 * n) (128 * n)) (some (.int .i64 (a : Int))) (some (.int .i64 ((a : Int) + (k : Int)))) none).run Try.prog X = .ok (.slice (some ⟨bb, a, none⟩) k (128 * n - a)) X := fun X => by
                have := slice_cutA X bb (128 * n) (128 * n) a (a + k) (by omega) (by omega) (by omega) ((a : Int) + (k : Int)) (by omega)
                rw [Nat.add_sub_cancel_left] at this; exact this
              have hkI : (0 : Int) < (k : Int) := by omega
              have hn64 : 128 * n ≤ 8192 := by omega
              generalize txt (rdB L a k) = TX at *
              clear har hrl
              -- the document's Within at W2: k how many, true the answer
              have HRI : Hid (Calls Try.prog 14 #[.pointer (some ⟨rb, 0, none⟩), .int .u64 (a : Int), .int .i64 (k : Int)] W2 fun e w' => e = .returned (.bool true) ∧ W2 = w') := by
                show Calls _ _ _ _ _
                have := rwithin_any rb bb n (128 * n) a k L W2 HJ.out.rm.rr ha (by omega)
                rw [hwi] at this
                exact this
              go_wp2_with fail
              refine Calls.mono HRI.out ?_
              rintro e wx ⟨rfl, rfl⟩
              clear HRI
              generalize 128 * n = N at *
              go_wp2_with fail
              refine wp_region_held_drew (S := Below W2.heap.size W2) (by kernel_rfl) (Below.drew (Below.refl _ _)) (fun hHeld => ?_)
              refine wpAnyH_take (i := 0) (oi := { dst := some 125, op := Go.Op.move (Go.Operand.tmp 12), type := 26, pos := _, after := #[], guard := none }) (v := .int .i64 0) rfl (by kernel_rfl) (by kernel_rfl) (by kernel_rfl) (fun _ _ _ h => h) (Or.inl ⟨by rfl, fun w' hw' => ?_⟩) hHeld ?_
              · first | (go_simp; done) | (go_simp; rfl)
              try simp only [Act.put, List.setIfInBounds_toArray, List.set_cons_zero, List.set_cons_succ]
              refine wpAnyH_take (i := 1) (oi := { dst := some 126, op := Go.Op.binOp Go.BinOp.neq 26 (Go.Operand.tmp 125) (Go.Operand.const (Go.Value.int Go.IntKind.i64 0)) 26, type := 4, pos := _, after := #[{ on := 0, ground := Go.Ground.data }], guard := none }) (v := .bool false) rfl (by kernel_rfl) (by kernel_rfl) (by kernel_rfl) (fun _ _ _ h => h) (Or.inl ⟨by rfl, fun w' hw' => ?_⟩) hHeld ?_
              · first | (go_simp; done) | (go_simp; rfl)
              try simp only [Act.put, List.setIfInBounds_toArray, List.set_cons_zero, List.set_cons_succ]
              refine wpAnyH_take (i := 2) (oi := { dst := some 127, op := Go.Op.move (Go.Operand.tmp 126), type := 4, pos := _, after := #[{ on := 1, ground := Go.Ground.data }], guard := none }) (v := .bool false) rfl (by kernel_rfl) (by kernel_rfl) (by kernel_rfl) (fun _ _ _ h => h) (Or.inl ⟨by rfl, fun w' hw' => ?_⟩) hHeld ?_
              · first | (go_simp; done) | (go_simp; rfl)
              try simp only [Act.put, List.setIfInBounds_toArray, List.set_cons_zero, List.set_cons_succ]
              refine wpAnyH_take (i := 3) (oi := { dst := some 128, op := Go.Op.move (Go.Operand.tmp 16), type := 32, pos := _, after := #[{ on := 2, ground := Go.Ground.guard }], guard := some (2, false) }) (v := .slice (some ⟨W.heap.size, 0, none⟩) k k) rfl (by kernel_rfl) (by kernel_rfl) (by kernel_rfl) (fun _ _ _ h => h) (Or.inl ⟨by rfl, fun w' hw' => ?_⟩) hHeld ?_
              · first | (go_simp; done) | (go_simp; rfl)
              try simp only [Act.put, List.setIfInBounds_toArray, List.set_cons_zero, List.set_cons_succ]
              refine wpAnyH_take (i := 4) (oi := { dst := some 129, op := Go.Op.call { callee := Go.Callee.builtin Go.Builtin.len, args := #[Go.Operand.tmp 128], argTypes := #[32] }, type := 3, pos := _, after := #[{ on := 3, ground := Go.Ground.data }, { on := 2, ground := Go.Ground.guard }], guard := some (2, false) }) (v := .int .i64 (k : Int)) rfl (by kernel_rfl) (by kernel_rfl) (by kernel_rfl) (fun _ _ _ h => h) (Or.inl ⟨by rfl, fun w' hw' => ?_⟩) hHeld ?_
              · first | (go_simp; done) | (go_simp; rfl)
              try simp only [Act.put, List.setIfInBounds_toArray, List.set_cons_zero, List.set_cons_succ]
              refine wpAnyH_take (i := 5) (oi := { dst := some 130, op := Go.Op.move (Go.Operand.tmp 3), type := 3, pos := _, after := #[{ on := 2, ground := Go.Ground.guard }], guard := some (2, false) }) (v := .int .i64 (k : Int)) rfl (by kernel_rfl) (by kernel_rfl) (by kernel_rfl) (fun _ _ _ h => h) (Or.inl ⟨by rfl, fun w' hw' => ?_⟩) hHeld ?_
              · first | (go_simp; done) | (go_simp; rfl)
              try simp only [Act.put, List.setIfInBounds_toArray, List.set_cons_zero, List.set_cons_succ]
              refine wpAnyH_take (i := 6) (oi := { dst := some 131, op := Go.Op.binOp Go.BinOp.neq 3 (Go.Operand.tmp 129) (Go.Operand.tmp 130) 3, type := 4, pos := _, after := #[{ on := 4, ground := Go.Ground.data }, { on := 5, ground := Go.Ground.data }, { on := 2, ground := Go.Ground.guard }], guard := some (2, false) }) (v := .bool false) rfl (by kernel_rfl) (by kernel_rfl) (by kernel_rfl) (fun _ _ _ h => h) (Or.inl ⟨by rfl, fun w' hw' => ?_⟩) hHeld ?_
              · first | (go_simp; done) | (go_simp; rfl)
              try simp only [Act.put, List.setIfInBounds_toArray, List.set_cons_zero, List.set_cons_succ]
              refine wpAnyH_take (i := 7) (oi := { dst := some 132, op := Go.Op.pick (Go.Operand.tmp 127) (Go.Operand.const (Go.Value.bool true)) (Go.Operand.tmp 131), type := 4, pos := _, after := #[{ on := 2, ground := Go.Ground.data }, { on := 6, ground := Go.Ground.data }], guard := none }) (v := .bool false) rfl (by kernel_rfl) (by kernel_rfl) (by kernel_rfl) (fun _ _ _ h => h) (Or.inl ⟨by rfl, fun w' hw' => ?_⟩) hHeld ?_
              · first | (go_simp; done) | (go_simp; rfl)
              try simp only [Act.put, List.setIfInBounds_toArray, List.set_cons_zero, List.set_cons_succ]
              refine wpAnyH_take (i := 8) (oi := { dst := some 133, op := Go.Op.move (Go.Operand.tmp 132), type := 4, pos := _, after := #[{ on := 7, ground := Go.Ground.data }, { on := 2, ground := Go.Ground.chain }], guard := none }) (v := .bool false) rfl (by kernel_rfl) (by kernel_rfl) (by kernel_rfl) (fun _ _ _ h => h) (Or.inl ⟨by rfl, fun w' hw' => ?_⟩) hHeld ?_
              · first | (go_simp; done) | (go_simp; rfl)
              try simp only [Act.put, List.setIfInBounds_toArray, List.set_cons_zero, List.set_cons_succ]
              refine wpAnyH_take (i := 9) (oi := { dst := some 134, op := Go.Op.move (Go.Operand.tmp 3), type := 3, pos := _, after := #[{ on := 8, ground := Go.Ground.guard }], guard := some (8, false) }) (v := .int .i64 (k : Int)) rfl (by kernel_rfl) (by kernel_rfl) (by kernel_rfl) (fun _ _ _ h => h) (Or.inl ⟨by rfl, fun w' hw' => ?_⟩) hHeld ?_
              · first | (go_simp; done) | (go_simp; rfl)
              try simp only [Act.put, List.setIfInBounds_toArray, List.set_cons_zero, List.set_cons_succ]
              refine wpAnyH_take (i := 10) (oi := { dst := some 135, op := Go.Op.binOp Go.BinOp.gtr 3 (Go.Operand.tmp 134) (Go.Operand.const (Go.Value.int Go.IntKind.i64 0)) 3, type := 4, pos := _, after := #[{ on := 9, ground := Go.Ground.data }, { on := 8, ground := Go.Ground.guard }], guard := some (8, false) }) (v := .bool true) rfl (by kernel_rfl) (by kernel_rfl) (by kernel_rfl) (fun _ _ _ h => h) (Or.inl ⟨by rfl, fun w' hw' => ?_⟩) hHeld ?_
              · first | (go_simp; done) | (go_simp; rfl)
              try simp only [Act.put, List.setIfInBounds_toArray, List.set_cons_zero, List.set_cons_succ]
              refine wpAnyH_take (i := 11) (oi := { dst := some 136, op := Go.Op.move (Go.Operand.tmp 135), type := 4, pos := _, after := #[{ on := 10, ground := Go.Ground.data }, { on := 8, ground := Go.Ground.chain }, { on := 8, ground := Go.Ground.guard }], guard := some (8, false) }) (v := .bool true) rfl (by kernel_rfl) (by kernel_rfl) (by kernel_rfl) (fun _ _ _ h => h) (Or.inl ⟨by rfl, fun w' hw' => ?_⟩) hHeld ?_
              · first | (go_simp; done) | (go_simp; rfl)
              try simp only [Act.put, List.setIfInBounds_toArray, List.set_cons_zero, List.set_cons_succ]
              refine wpAnyH_take (i := 12) (oi := { dst := some 137, op := Go.Op.move (Go.Operand.tmp 16), type := 32, pos := _, after := #[{ on := 11, ground := Go.Ground.guard }], guard := some (11, true) }) (v := .slice (some ⟨W.heap.size, 0, none⟩) k k) rfl (by kernel_rfl) (by kernel_rfl) (by kernel_rfl) (fun _ _ _ h => h) (Or.inl ⟨by rfl, fun w' hw' => ?_⟩) hHeld ?_
              · first | (go_simp; done) | (go_simp; rfl)
              try simp only [Act.put, List.setIfInBounds_toArray, List.set_cons_zero, List.set_cons_succ]
              refine wpAnyH_take (i := 13) (oi := { dst := some 138, op := Go.Op.convert 32 9 (Go.Operand.tmp 137), type := 9, pos := _, after := #[{ on := 12, ground := Go.Ground.data }, { on := 11, ground := Go.Ground.guard }], guard := some (11, true) }) (v := .string TX) rfl (by kernel_rfl) (by kernel_rfl) (by kernel_rfl) (fun _ _ _ h => h) (Or.inl ⟨by rfl, fun w' hw' => ?_⟩) hHeld ?_
              · have hcc := HCV1.out _ hw'; first | (go_simp; done) | (go_simp; rfl)
              try simp only [Act.put, List.setIfInBounds_toArray, List.set_cons_zero, List.set_cons_succ]
              refine wpAnyH_take (i := 14) (oi := { dst := some 139, op := Go.Op.move (Go.Operand.tmp 13), type := 29, pos := _, after := #[{ on := 11, ground := Go.Ground.guard }], guard := some (11, true) }) (v := .pointer (some ⟨rb, 0, none⟩)) rfl (by kernel_rfl) (by kernel_rfl) (by kernel_rfl) (fun _ _ _ h => h) (Or.inl ⟨by rfl, fun w' hw' => ?_⟩) hHeld ?_
              · first | (go_simp; done) | (go_simp; rfl)
              try simp only [Act.put, List.setIfInBounds_toArray, List.set_cons_zero, List.set_cons_succ]
              refine wpAnyH_take (i := 15) (oi := { dst := some 140, op := Go.Op.nilCheck (Go.Operand.tmp 139), type := 0, pos := _, after := #[{ on := 14, ground := Go.Ground.data }, { on := 11, ground := Go.Ground.guard }], guard := some (11, true) }) (v := .pointer (some ⟨rb, 0, none⟩)) rfl (by kernel_rfl) (by kernel_rfl) (by kernel_rfl) (fun _ _ _ h => h) (Or.inl ⟨by rfl, fun w' hw' => ?_⟩) hHeld ?_
              · first | (go_simp; done) | (go_simp; rfl)
              try simp only [Act.put, List.setIfInBounds_toArray, List.set_cons_zero, List.set_cons_succ]
              refine wpAnyH_take (i := 16) (oi := { dst := some 141, op := Go.Op.fieldAddr 43 (Go.Operand.tmp 140) 0, type := 0, pos := _, after := #[{ on := 15, ground := Go.Ground.data }, { on := 11, ground := Go.Ground.guard }], guard := some (11, true) }) (v := .pointer (some ⟨rb, 0, none⟩)) rfl (by kernel_rfl) (by kernel_rfl) (by kernel_rfl) (fun _ _ _ h => h) (Or.inl ⟨by rfl, fun w' hw' => ?_⟩) hHeld ?_
              · first | (go_simp; done) | (go_simp; rfl)
              try simp only [Act.put, List.setIfInBounds_toArray, List.set_cons_zero, List.set_cons_succ]
              refine wpAnyH_take (i := 17) (oi := { dst := some 142, op := Go.Op.load 32 (Go.Operand.tmp 141), type := 32, pos := _, after := #[{ on := 16, ground := Go.Ground.data }, { on := 11, ground := Go.Ground.guard }], guard := some (11, true) }) (v := .slice (some ⟨bb, 0, none⟩) N N) rfl (by kernel_rfl) (by kernel_rfl) (by kernel_rfl) (fun _ _ _ h => h) (Or.inl ⟨by rfl, fun w' hw' => ?_⟩) hHeld ?_
              · have hcc := HCE.out _ hw'; first | (go_simp; done) | (go_simp; rfl)
              try simp only [Act.put, List.setIfInBounds_toArray, List.set_cons_zero, List.set_cons_succ]
              refine wpAnyH_take (i := 18) (oi := { dst := some 143, op := Go.Op.move (Go.Operand.tmp 2), type := 23, pos := _, after := #[{ on := 11, ground := Go.Ground.guard }], guard := some (11, true) }) (v := .int .u64 (a : Int)) rfl (by kernel_rfl) (by kernel_rfl) (by kernel_rfl) (fun _ _ _ h => h) (Or.inl ⟨by rfl, fun w' hw' => ?_⟩) hHeld ?_
              · first | (go_simp; done) | (go_simp; rfl)
              try simp only [Act.put, List.setIfInBounds_toArray, List.set_cons_zero, List.set_cons_succ]
              refine wpAnyH_take (i := 19) (oi := { dst := some 144, op := Go.Op.convert 23 3 (Go.Operand.tmp 143), type := 3, pos := _, after := #[{ on := 18, ground := Go.Ground.data }, { on := 11, ground := Go.Ground.guard }], guard := some (11, true) }) (v := .int .i64 (a : Int)) rfl (by kernel_rfl) (by kernel_rfl) (by kernel_rfl) (fun _ _ _ h => h) (Or.inl ⟨by rfl, fun w' hw' => ?_⟩) hHeld ?_
              · first | (go_simp; done) | (go_simp; exact wrap_i64_in _ (by omega) (by omega))
              try simp only [Act.put, List.setIfInBounds_toArray, List.set_cons_zero, List.set_cons_succ]
              refine wpAnyH_take (i := 20) (oi := { dst := some 145, op := Go.Op.move (Go.Operand.tmp 2), type := 23, pos := _, after := #[{ on := 11, ground := Go.Ground.guard }], guard := some (11, true) }) (v := .int .u64 (a : Int)) rfl (by kernel_rfl) (by kernel_rfl) (by kernel_rfl) (fun _ _ _ h => h) (Or.inl ⟨by rfl, fun w' hw' => ?_⟩) hHeld ?_
              · first | (go_simp; done) | (go_simp; rfl)
              try simp only [Act.put, List.setIfInBounds_toArray, List.set_cons_zero, List.set_cons_succ]
              refine wpAnyH_take (i := 21) (oi := { dst := some 146, op := Go.Op.convert 23 3 (Go.Operand.tmp 145), type := 3, pos := _, after := #[{ on := 20, ground := Go.Ground.data }, { on := 11, ground := Go.Ground.guard }], guard := some (11, true) }) (v := .int .i64 (a : Int)) rfl (by kernel_rfl) (by kernel_rfl) (by kernel_rfl) (fun _ _ _ h => h) (Or.inl ⟨by rfl, fun w' hw' => ?_⟩) hHeld ?_
              · first | (go_simp; done) | (go_simp; exact wrap_i64_in _ (by omega) (by omega))
              try simp only [Act.put, List.setIfInBounds_toArray, List.set_cons_zero, List.set_cons_succ]
              refine wpAnyH_take (i := 22) (oi := { dst := some 147, op := Go.Op.move (Go.Operand.tmp 3), type := 3, pos := _, after := #[{ on := 11, ground := Go.Ground.guard }], guard := some (11, true) }) (v := .int .i64 (k : Int)) rfl (by kernel_rfl) (by kernel_rfl) (by kernel_rfl) (fun _ _ _ h => h) (Or.inl ⟨by rfl, fun w' hw' => ?_⟩) hHeld ?_
              · first | (go_simp; done) | (go_simp; rfl)
              try simp only [Act.put, List.setIfInBounds_toArray, List.set_cons_zero, List.set_cons_succ]
              refine wpAnyH_take (i := 23) (oi := { dst := some 148, op := Go.Op.binOp Go.BinOp.add 3 (Go.Operand.tmp 146) (Go.Operand.tmp 147) 3, type := 3, pos := _, after := #[{ on := 21, ground := Go.Ground.data }, { on := 22, ground := Go.Ground.data }, { on := 11, ground := Go.Ground.guard }], guard := some (11, true) }) (v := .int .i64 ((a : Int) + (k : Int))) rfl (by kernel_rfl) (by kernel_rfl) (by kernel_rfl) (fun _ _ _ h => h) (Or.inl ⟨by rfl, fun w' hw' => ?_⟩) hHeld ?_
              · first | (go_simp; done) | (go_simp; exact wrap_i64_in _ (by omega) (by omega))
              try simp only [Act.put, List.setIfInBounds_toArray, List.set_cons_zero, List.set_cons_succ]
              refine wpAnyH_take (i := 24) (oi := { dst := some 149, op := Go.Op.slice 32 (Go.Operand.tmp 142) (some (Go.Operand.tmp 144)) (some (Go.Operand.tmp 148)) none, type := 32, pos := _, after := #[{ on := 17, ground := Go.Ground.data }, { on := 19, ground := Go.Ground.data }, { on := 23, ground := Go.Ground.data }, { on := 11, ground := Go.Ground.guard }], guard := some (11, true) }) (v := .slice (some ⟨bb, a, none⟩) k (N - a)) rfl (by kernel_rfl) (by kernel_rfl) (by kernel_rfl) (fun _ _ _ h => h) (Or.inl ⟨by rfl, fun w' hw' => ?_⟩) hHeld ?_
              · first | (go_simp; done) | (go_simp; rfl)
              try simp only [Act.put, List.setIfInBounds_toArray, List.set_cons_zero, List.set_cons_succ]
              refine wpAnyH_take (i := 25) (oi := { dst := some 150, op := Go.Op.convert 32 9 (Go.Operand.tmp 149), type := 9, pos := _, after := #[{ on := 24, ground := Go.Ground.data }, { on := 11, ground := Go.Ground.guard }], guard := some (11, true) }) (v := .string TX) rfl (by kernel_rfl) (by kernel_rfl) (by kernel_rfl) (fun _ _ _ h => h) (Or.inl ⟨by rfl, fun w' hw' => ?_⟩) hHeld ?_
              · have hcc := HCV2.out _ hw'; first | (go_simp; done) | (go_simp; rfl)
              try simp only [Act.put, List.setIfInBounds_toArray, List.set_cons_zero, List.set_cons_succ]
              refine wpAnyH_take (i := 26) (oi := { dst := some 151, op := Go.Op.binOp Go.BinOp.neq 9 (Go.Operand.tmp 138) (Go.Operand.tmp 150) 9, type := 4, pos := _, after := #[{ on := 13, ground := Go.Ground.data }, { on := 25, ground := Go.Ground.data }, { on := 11, ground := Go.Ground.guard }], guard := some (11, true) }) (v := .bool false) rfl (by kernel_rfl) (by kernel_rfl) (by kernel_rfl) (fun _ _ _ h => h) (Or.inl ⟨by rfl, fun w' hw' => ?_⟩) hHeld ?_
              · first | (go_simp; done) | (go_simp; rfl)
              try simp only [Act.put, List.setIfInBounds_toArray, List.set_cons_zero, List.set_cons_succ]
              refine wpAnyH_take (i := 27) (oi := { dst := some 152, op := Go.Op.pick (Go.Operand.tmp 136) (Go.Operand.tmp 151) (Go.Operand.const (Go.Value.bool false)), type := 4, pos := _, after := #[{ on := 11, ground := Go.Ground.data }, { on := 26, ground := Go.Ground.data }, { on := 8, ground := Go.Ground.guard }], guard := some (8, false) }) (v := .bool false) rfl (by kernel_rfl) (by kernel_rfl) (by kernel_rfl) (fun _ _ _ h => h) (Or.inl ⟨by rfl, fun w' hw' => ?_⟩) hHeld ?_
              · first | (go_simp; done) | (go_simp; rfl)
              try simp only [Act.put, List.setIfInBounds_toArray, List.set_cons_zero, List.set_cons_succ]
              refine wpAnyH_take (i := 28) (oi := { dst := some 153, op := Go.Op.pick (Go.Operand.tmp 133) (Go.Operand.const (Go.Value.bool true)) (Go.Operand.tmp 152), type := 4, pos := _, after := #[{ on := 8, ground := Go.Ground.data }, { on := 27, ground := Go.Ground.data }], guard := none }) (v := .bool false) rfl (by kernel_rfl) (by kernel_rfl) (by kernel_rfl) (fun _ _ _ h => h) (Or.inl ⟨by rfl, fun w' hw' => ?_⟩) hHeld ?_
              · first | (go_simp; done) | (go_simp; rfl)
              try simp only [Act.put, List.setIfInBounds_toArray, List.set_cons_zero, List.set_cons_succ]
              refine wpAnyH_done (by kernel_rfl) ?_ _
              go_wp2_with fail
              go_meet
              case rel => exact ⟨rfl, Below.drew (Below.refl _ _)⟩
        case rest =>
          obtain ⟨rfl, hbc⟩ := hcut
          clear HR
          have HJ3 : Hid _ := HJ.out.below hbc
          have HBK3 : Hid (Below w.heap.size w wc) := HBK.out.trans (hbc.mono HBK.out.size)
          clear hbc HJ HBK
          have HJ : Hid _ := HJ3.out
          have HBK : Hid _ := HBK3.out
          clear HJ3 HBK3
          generalize wc = W at *
          have hzv := fun W => zero_gr W
          obtain ⟨ZL, hZL⟩ : ∃ L, L = Z128.map B8 := ⟨_, rfl⟩
          have heqZ : ∀ W, (Op.equalIn 10000 45 (.agg ZL.toArray) (.agg ZL.toArray)).run Try.prog W = .ok true W := fun W => by rw [hZL]; exact eq_gr_self W Z128 z128_len
          rw [← hZL] at hzv
          have HZS : Hid (ZL.toArray.size = 128) := by show _ = _; rw [hZL]; simp [Z128]
          have HZI : Hid _ := info128 ZL (by rw [hZL, List.length_map]; exact z128_len)
          have HZ1 : Hid (ZL.toArray.all (·.oneCell') = true) := by show _ = _; rw [hZL]; exact B8_onea _
          have HZL : Hid _ := hZL
          have HBD : Hid (∀ W, (Instr.build 45 #[]).run Try.prog W = .ok (.agg ZL.toArray) W) := by rw [hZL]; exact fun W => build_gr W
          clear hZL
          by_cases hgr : gF n g = 0
          · obtain ⟨gg, rfl, hgn⟩ := gF_zero hgr
            have hgt := get_ok mb gb n n gg L W HJ.out.pm.pr hgn
            unfold gV at hgt
            obtain ⟨GL, hGL⟩ : ∃ GL, GL = (getB L gg).map B8 := ⟨_, rfl⟩
            have hg128 := getB_len L n gg HJ.out.pm.len hgn
            have heqG : ∀ W, (Op.equalIn 10000 45 (.agg GL.toArray) (.agg GL.toArray)).run Try.prog W = .ok true W := fun W => by rw [hGL]; exact eq_gr_self W _ hg128
            have HGI : Hid _ := info128 GL (by rw [hGL, List.length_map]; exact hg128)
            have HGS : Hid (GL.toArray.size = 128) := by show _ = _; rw [hGL]; simpa using hg128
            have HG1 : Hid (GL.toArray.all (·.oneCell') = true) := by show _ = _; rw [hGL]; exact B8_onea _
            have HRG : Hid (∀ X, RM X rb bb n L → Calls Try.prog 18 #[.pointer (some ⟨rb, 0, none⟩), .int .i64 (gg : Int)] X fun e w' => e = .returned (.agg GL.toArray) ∧ Below X.heap.size X w') := by
              rw [hGL]
              exact fun X hX => rget_ok rb bb n (128 * n) gg L X hX.rr hgn (by unfold maxLen; omega)
            rw [← hGL] at hgt
            have HGT : Hid _ := hgt
            have hg0I : ¬ (gg : Int) < 0 := by omega
            have hgnI : ¬ (n : Int) ≤ (gg : Int) := by omega
            clear hgt hGL hg128 hgr
            go_wp2_with fail
            refine Calls.mono HGT.out ?_
            rintro e W2 ⟨rfl, hb2⟩
            -- behind Get: GL the cells, $2 their facts' letter
            have HR2 : Hid ((W2.alloc (.cells ZL.toArray 45 (0, 0))).heap[W2.heap.size]? = some (.cells ZL.toArray 45 (0, 0))) := heap_alloc_new _ _
            have HS3 : Hid (∀ V3, V3 = (W2.alloc (.cells ZL.toArray 45 (0, 0))).setRow W2.heap.size GL.toArray → Hid (JM w.heap.size V3 mb gb rb bb n L) ∧ Hid (V3.rangeAt W2.heap.size 0 GL) ∧ Hid (Below w.heap.size w V3)) := fun V3 hV3 => by
              have hb3 : Below W2.heap.size W2 V3 := by rw [hV3]; exact below_setRow ((Below.refl _ _).alloc (Nat.le_refl _) _) (Nat.le_refl _) _
              exact ⟨(HJ.out.below hb2).below hb3, rangeAt_row (by rw [hV3]; exact setRow_heap _ _ _ _ _ _ HR2.out), (HBK.out.trans (hb2.mono HBK.out.size)).trans (hb3.mono (Nat.le_trans HBK.out.size hb2.size))⟩
            clear hb2 HJ HBK
            go_wp2_with (refine wpList_store_rowL rfl 45 _ _ rfl W2.heap.size GL.toArray rfl rfl 45 ZL.toArray HR2.out (info128a _ HGS.out) (HZS.out.trans HGS.out.symm) HG1.out ?_; intro V3 hV3; obtain ⟨HJ, HR3, HBK⟩ := HS3.out V3 hV3; clear hV3 HR2 HS3)
            have HRG3 : Hid (∀ X, Below V3.heap.size V3 X → Calls Try.prog 18 #[.pointer (some ⟨rb, 0, none⟩), .int .i64 (gg : Int)] X fun e w' => e = .returned (.agg GL.toArray) ∧ Below X.heap.size X w') := fun X hX => HRG.out X (HJ.out.below hX).rm
            refine wp_region_held_drew (S := Below V3.heap.size V3) (by kernel_rfl) (Below.drew (Below.refl _ _)) (fun hHeld => ?_)
            refine wpAnyH_take (i := 0) (oi := { dst := some 200, op := Go.Op.move (Go.Operand.tmp 12), type := 26, pos := _, after := #[], guard := none }) (v := .int .i64 0) rfl (by kernel_rfl) (by kernel_rfl) (by kernel_rfl) (fun _ _ _ h => h) (Or.inl ⟨by rfl, fun w' hw' => ?_⟩) hHeld ?_
            · first | (go_simp; done) | (go_simp; rfl)
            try simp only [Act.put, List.setIfInBounds_toArray, List.set_cons_zero, List.set_cons_succ]
            refine wpAnyH_take (i := 1) (oi := { dst := some 201, op := Go.Op.binOp Go.BinOp.eql 26 (Go.Operand.tmp 200) (Go.Operand.const (Go.Value.int Go.IntKind.i64 0)) 26, type := 4, pos := _, after := #[{ on := 0, ground := Go.Ground.data }], guard := none }) (v := .bool true) rfl (by kernel_rfl) (by kernel_rfl) (by kernel_rfl) (fun _ _ _ h => h) (Or.inl ⟨by rfl, fun w' hw' => ?_⟩) hHeld ?_
            · first | (go_simp; done) | (go_simp; rfl)
            try simp only [Act.put, List.setIfInBounds_toArray, List.set_cons_zero, List.set_cons_succ]
            refine wpAnyH_take (i := 2) (oi := { dst := some 202, op := Go.Op.move (Go.Operand.tmp 201), type := 4, pos := _, after := #[{ on := 1, ground := Go.Ground.data }], guard := none }) (v := .bool true) rfl (by kernel_rfl) (by kernel_rfl) (by kernel_rfl) (fun _ _ _ h => h) (Or.inl ⟨by rfl, fun w' hw' => ?_⟩) hHeld ?_
            · first | (go_simp; done) | (go_simp; rfl)
            try simp only [Act.put, List.setIfInBounds_toArray, List.set_cons_zero, List.set_cons_succ]
            refine wpAnyH_take (i := 3) (oi := { dst := some 203, op := Go.Op.load 45 (Go.Operand.tmp 17), type := 45, pos := _, after := #[{ on := 2, ground := Go.Ground.guard }], guard := some (2, true) }) rfl (by kernel_rfl) (by kernel_rfl) (by kernel_rfl) (fun _ _ _ h => h) (yieldsIf_load_mid (by rfl) 45 (.tmp 17) rfl (W2.heap.size) (0) rfl (GL) _ (fun _ h => rangeAt_below HR3.out h) Try.underlying45 rfl HGI.out) hHeld ?_
            try simp only [Act.put, List.setIfInBounds_toArray, List.set_cons_zero, List.set_cons_succ]
            refine wpAnyH_take (i := 4) (oi := { dst := some 204, op := Go.Op.move (Go.Operand.tmp 13), type := 29, pos := _, after := #[{ on := 2, ground := Go.Ground.guard }], guard := some (2, true) }) (v := .pointer (some ⟨rb, 0, none⟩)) rfl (by kernel_rfl) (by kernel_rfl) (by kernel_rfl) (fun _ _ _ h => h) (Or.inl ⟨by rfl, fun w' hw' => ?_⟩) hHeld ?_
            · first | (go_simp; done) | (go_simp; rfl)
            try simp only [Act.put, List.setIfInBounds_toArray, List.set_cons_zero, List.set_cons_succ]
            refine wpAnyH_take (i := 5) (oi := { dst := some 205, op := Go.Op.move (Go.Operand.tmp 4), type := 3, pos := _, after := #[{ on := 2, ground := Go.Ground.guard }], guard := some (2, true) }) (v := .int .i64 (gg : Int)) rfl (by kernel_rfl) (by kernel_rfl) (by kernel_rfl) (fun _ _ _ h => h) (Or.inl ⟨by rfl, fun w' hw' => ?_⟩) hHeld ?_
            · first | (go_simp; done) | (go_simp; rfl)
            try simp only [Act.put, List.setIfInBounds_toArray, List.set_cons_zero, List.set_cons_succ]
            refine wpAnyH_ready (rs := [6]) (by kernel_rfl) (by simp) ?_
            refine AllReadyH.cons (o := { dst := some 206, op := Go.Op.call { callee := Go.Callee.value (Go.Operand.func 18), args := #[Go.Operand.tmp 204, Go.Operand.tmp 205], argTypes := #[29, 3] }, type := 45, pos := _, after := #[{ on := 4, ground := Go.Ground.data }, { on := 5, ground := Go.Ground.data }, { on := 2, ground := Go.Ground.chain }, { on := 2, ground := Go.Ground.guard }], guard := some (2, true) }) rfl (fun K hK => ?_) AllReadyH.nil
            rw [if_pos (by rfl)]
            go_wp2_with fail
            refine Calls.mono (HRG3.out _ hHeld) ?_
            rintro e V4 ⟨rfl, hb4⟩
            have hHeld4 : Below V3.heap.size V3 V4 := hHeld.trans (hb4.mono hHeld.size)
            refine hK.out _ _ hHeld4 (fun _ => ?_)
            clear hK K
            try simp only [Act.put, List.setIfInBounds_toArray, List.set_cons_zero, List.set_cons_succ]
            clear hHeld
            have hHeld := hHeld4
            refine wpAnyH_take (i := 7) (oi := { dst := some 207, op := Go.Op.binOp Go.BinOp.eql 45 (Go.Operand.tmp 203) (Go.Operand.tmp 206) 45, type := 4, pos := _, after := #[{ on := 3, ground := Go.Ground.data }, { on := 6, ground := Go.Ground.data }, { on := 2, ground := Go.Ground.guard }], guard := some (2, true) }) (v := .bool true) rfl (by kernel_rfl) (by kernel_rfl) (by kernel_rfl) (fun _ _ _ h => h) (Or.inl ⟨by rfl, fun w' hw' => ?_⟩) hHeld ?_
            · first | (go_simp; done) | (go_simp; rfl)
            try simp only [Act.put, List.setIfInBounds_toArray, List.set_cons_zero, List.set_cons_succ]
            refine wpAnyH_take (i := 8) (oi := { dst := some 208, op := Go.Op.pick (Go.Operand.tmp 202) (Go.Operand.tmp 207) (Go.Operand.const (Go.Value.bool false)), type := 4, pos := _, after := #[{ on := 2, ground := Go.Ground.data }, { on := 7, ground := Go.Ground.data }], guard := none }) (v := .bool true) rfl (by kernel_rfl) (by kernel_rfl) (by kernel_rfl) (fun _ _ _ h => h) (Or.inl ⟨by rfl, fun w' hw' => ?_⟩) hHeld ?_
            · first | (go_simp; done) | (go_simp; rfl)
            try simp only [Act.put, List.setIfInBounds_toArray, List.set_cons_zero, List.set_cons_succ]
            refine wpAnyH_take (i := 9) (oi := { dst := some 209, op := Go.Op.move (Go.Operand.tmp 208), type := 4, pos := _, after := #[{ on := 8, ground := Go.Ground.data }, { on := 6, ground := Go.Ground.chain }], guard := none }) (v := .bool true) rfl (by kernel_rfl) (by kernel_rfl) (by kernel_rfl) (fun _ _ _ h => h) (Or.inl ⟨by rfl, fun w' hw' => ?_⟩) hHeld ?_
            · first | (go_simp; done) | (go_simp; rfl)
            try simp only [Act.put, List.setIfInBounds_toArray, List.set_cons_zero, List.set_cons_succ]
            refine wpAnyH_ready (rs := [10]) (by kernel_rfl) (by simp) ?_
            refine AllReadyH.cons (o := { dst := some 210, op := Go.Op.call { callee := Go.Callee.value (Go.Operand.func 8), args := #[], argTypes := #[] }, type := 4, pos := _, after := #[{ on := 9, ground := Go.Ground.chain }, { on := 9, ground := Go.Ground.guard }], guard := some (9, true) }) rfl (fun K hK => ?_) AllReadyH.nil
            rw [if_pos (by rfl)]
            go_wp2_with fail
            refine Calls.mono (known_any _) ?_
            rintro e V5 ⟨rfl, hb5⟩
            have hHeld5 : Below V3.heap.size V3 V5 := hHeld.trans (hb5.mono hHeld.size)
            refine hK.out _ _ hHeld5 (fun _ => ?_)
            clear hK K
            try simp only [Act.put, List.setIfInBounds_toArray, List.set_cons_zero, List.set_cons_succ]
            clear hHeld
            have hHeld := hHeld5
            refine wpAnyH_take (i := 11) (oi := { dst := some 211, op := Go.Op.pick (Go.Operand.tmp 209) (Go.Operand.tmp 210) (Go.Operand.const (Go.Value.bool false)), type := 4, pos := _, after := #[{ on := 9, ground := Go.Ground.data }, { on := 10, ground := Go.Ground.data }], guard := none }) (v := .bool true) rfl (by kernel_rfl) (by kernel_rfl) (by kernel_rfl) (fun _ _ _ h => h) (Or.inl ⟨by rfl, fun w' hw' => ?_⟩) hHeld ?_
            · first | (go_simp; done) | (go_simp; rfl)
            try simp only [Act.put, List.setIfInBounds_toArray, List.set_cons_zero, List.set_cons_succ]
            refine wpAnyH_take (i := 12) (oi := { dst := some 10, op := Go.Op.assign (Go.Operand.tmp 211), type := 4, pos := _, after := #[{ on := 11, ground := Go.Ground.data }, { on := 10, ground := Go.Ground.chain }, { on := 0, ground := Go.Ground.phase }, { on := 1, ground := Go.Ground.phase }, { on := 2, ground := Go.Ground.phase }, { on := 3, ground := Go.Ground.phase }, { on := 4, ground := Go.Ground.phase }, { on := 5, ground := Go.Ground.phase }, { on := 6, ground := Go.Ground.phase }, { on := 7, ground := Go.Ground.phase }, { on := 8, ground := Go.Ground.phase }, { on := 9, ground := Go.Ground.phase }, { on := 10, ground := Go.Ground.phase }, { on := 11, ground := Go.Ground.phase }], guard := none }) (v := .bool true) rfl (by kernel_rfl) (by kernel_rfl) (by kernel_rfl) (fun _ _ _ h => h) (Or.inl ⟨by rfl, fun w' hw' => ?_⟩) hHeld ?_
            · first | (go_simp; done) | (go_simp; rfl)
            try simp only [Act.put, List.setIfInBounds_toArray, List.set_cons_zero, List.set_cons_succ]
            refine wpAnyH_done (by kernel_rfl) ?_ _
            have HBF : Hid (Below w.heap.size w V5) := HBK.out.trans (hHeld5.mono HBK.out.size)
            clear hHeld hHeld5 hHeld4 hb4 hb5
            go_wp2
            go_ret
            exact ⟨rfl, HBF.out⟩
          · obtain ⟨hf2, hgo⟩ := gF_pos hgr
            have hgt := get_bad (.pointer (some ⟨mb, 0, none⟩)) g 2 W (by omega) (fun X hX => by
              have := gfault_any mb n n _ g X (HJ.out.below hX).pm.cell HJ.out.pm.pos
              rw [hf2] at this; exact this)
            unfold gV at hgt
            rw [← HZL.out] at hgt
            have HGT : Hid _ := hgt
            clear hgt hf2 hgr
            go_wp2_with fail
            refine Calls.mono HGT.out ?_
            rintro e W2 ⟨rfl, hb2⟩
            -- behind Get: ZL the cells, $2 their facts' letter
            have HR2 : Hid ((W2.alloc (.cells ZL.toArray 45 (0, 0))).heap[W2.heap.size]? = some (.cells ZL.toArray 45 (0, 0))) := heap_alloc_new _ _
            have HS3 : Hid (∀ V3, V3 = (W2.alloc (.cells ZL.toArray 45 (0, 0))).setRow W2.heap.size ZL.toArray → Hid (JM w.heap.size V3 mb gb rb bb n L) ∧ Hid (V3.rangeAt W2.heap.size 0 ZL) ∧ Hid (Below w.heap.size w V3)) := fun V3 hV3 => by
              have hb3 : Below W2.heap.size W2 V3 := by rw [hV3]; exact below_setRow ((Below.refl _ _).alloc (Nat.le_refl _) _) (Nat.le_refl _) _
              exact ⟨(HJ.out.below hb2).below hb3, rangeAt_row (by rw [hV3]; exact setRow_heap _ _ _ _ _ _ HR2.out), (HBK.out.trans (hb2.mono HBK.out.size)).trans (hb3.mono (Nat.le_trans HBK.out.size hb2.size))⟩
            clear hb2 HJ HBK
            by_cases hg0 : g < 0
            · clear hgo
              go_wp2_with (first
                | (refine wpList_store_rowL rfl 45 _ _ rfl W2.heap.size ZL.toArray rfl rfl 45 ZL.toArray HR2.out (info128a _ HZS.out) rfl HZ1.out ?_; intro V3 hV3; obtain ⟨HJ, HR3, HBK⟩ := HS3.out V3 hV3; clear hV3 HR2 HS3)
                | (refine load_mid_g (by rfl) 45 _ rfl W2.heap.size 0 rfl ZL _ HR3.out Try.underlying45 rfl HZI.out ?_)
                | (refine wpList_buildg (by rfl) 45 #[] rfl #[] (.agg ZL.toArray) (by simp) (HBD.out _) ?_))
              refine Calls.mono (known_any _) ?_
              rintro e wk ⟨rfl, hbk⟩
              have HBF : Hid (Below w.heap.size w wk) := HBK.out.trans (hbk.mono HBK.out.size)
              clear hbk
              go_wp2
              go_ret
              exact ⟨rfl, HBF.out⟩
            · have hgn : (n : Int) ≤ g := by omega
              clear hgo
              go_wp2_with (first
                | (refine wpList_store_rowL rfl 45 _ _ rfl W2.heap.size ZL.toArray rfl rfl 45 ZL.toArray HR2.out (info128a _ HZS.out) rfl HZ1.out ?_; intro V3 hV3; obtain ⟨HJ, HR3, HBK⟩ := HS3.out V3 hV3; clear hV3 HR2 HS3)
                | (refine load_mid_g (by rfl) 45 _ rfl W2.heap.size 0 rfl ZL _ HR3.out Try.underlying45 rfl HZI.out ?_)
                | (refine wpList_buildg (by rfl) 45 #[] rfl #[] (.agg ZL.toArray) (by simp) (HBD.out _) ?_))
              refine Calls.mono (known_any _) ?_
              rintro e wk ⟨rfl, hbk⟩
              have HBF : Hid (Below w.heap.size w wk) := HBK.out.trans (hbk.mono HBK.out.size)
              clear hbk
              go_wp2
              go_ret
              exact ⟨rfl, HBF.out⟩
end Go.Proofs.Ytikchlmfklbojaa.MC
