/- cpu: Text. -/
import Derived.Test.YtkpjfhphohanlaaGreatDoorJT
import Derived.Lib.ItoaLen
set_option linter.unusedVariables false
set_option linter.unusedSimpArgs false
namespace Go.Proofs.YtkpjfhphohanlaaGreatDoor.JC
open Go.RowKit
open Go.Proofs.YtkpjfhphohanlaaGreatDoor.EC (row_lt heap_at rangeAt_below rangeAt_row ret_bool ret_i64 beq_int)

theorem var_below {P : Program} {w w' : World} {name : String} {cs : Array Value} (h : w.var? P name = some cs) (hb : Below w.heap.size w w') : w'.var? P name = some cs := by
  unfold World.var? at h ⊢
  cases hg : P.globalNamed name with
  | none => rw [hg] at h; cases h
  | some g =>
    rw [hg] at h
    simp only [Option.bind_some] at h ⊢
    cases hx : w.heap[g]? with
    | none => rw [hx] at h; cases h
    | some o => rw [hb.block g (row_lt hx), hx]; rw [hx] at h; exact h
/-- The program's tables as the text lays them. -/
structure GV (w : World) : Prop where
  nt : NT w
  tab : Lib.TabIs Tryz.prog w Rows.tabN .u64 Lib.pow10Tab
  es : ∃ tp p, w.var? Tryz.prog "strconv.ErrSyntax" = some #[.iface tp p]
  er : ∃ tp p, w.var? Tryz.prog "strconv.ErrRange" = some #[.iface tp p]
theorem GV.below {w w' : World} (h : GV w) (hb : Below w.heap.size w w') : GV w' := by
  obtain ⟨t1, p1, h1⟩ := h.es
  obtain ⟨t2, p2, h2⟩ := h.er
  exact ⟨h.nt.below hb, var_below h.tab hb, ⟨t1, p1, var_below h1 hb⟩, ⟨t2, p2, var_below h2 hb⟩⟩
theorem below_grow (w : World) (k : Nat) (os : Array Obj) : Below w.heap.size w (Sort.grow (w.drewN k) os) :=
  ⟨rfl, rfl, rfl, by show w.heap.size ≤ (w.heap ++ os).size; simp, fun j hj => by show (w.heap ++ os)[j]? = w.heap[j]?; rw [Array.getElem?_append_left hj]⟩
theorem bytes_app (a b : List UInt8) : (⟨a.toArray⟩ ++ ⟨b.toArray⟩ : ByteArray) = ⟨(a ++ b).toArray⟩ := by
  apply ByteArray.ext
  apply Array.ext'
  simp
/-- While a text is told. -/
structure TX (w : World) (nb : Nat) (i : Ins) (P : Int) (cur : List UInt8) (X : World) : Prop where
  bel : Below w.heap.size w X
  lt : w.heap.size < nb
  gi : X.heap[w.heap.size]? = some (.cells (iL i).toArray 41 (0, 0))
  n : X.heap[nb]? = some (.cells #[.int .u8 P] 92 (0, 0))
  s : X.heap[nb + 1]? = some (.cells #[sV cur] 9 (0, 0))
  gv : GV w
theorem TX.below {w : World} {nb : Nat} {i : Ins} {P : Int} {cur : List UInt8} {X Y : World} (h : TX w nb i P cur X) (hb : Below X.heap.size X Y) : TX w nb i P cur Y :=
  ⟨h.bel.trans (hb.mono h.bel.size), h.lt, (hb.block _ (row_lt h.gi)).trans h.gi, (hb.block _ (row_lt h.n)).trans h.n, (hb.block _ (row_lt h.s)).trans h.s, h.gv⟩
theorem TX.ci {w : World} {nb : Nat} {i : Ins} {P : Int} {cur : List UInt8} {X : World} (h : TX w nb i P cur X) (k : Nat) (v : Value) (hv : (iL i)[k]? = some v) : X.cell? ⟨w.heap.size, k, none⟩ = some v := (fields5 _ _ _ _ _ h.gi k).trans (by rw [List.getElem?_toArray]; exact hv)
set_option maxHeartbeats 1000000 in
set_option maxRecDepth 100000 in
theorem tell_yes (P q : Int) (hq : (bits .and .u8 P q != 0) = true) (word cur : List UInt8) (hlen : cur.length + word.length < 1000000) (nb sb : Nat) (X : World) (h1 : X.cell? ⟨nb, 0, none⟩ = some (.int .u8 P)) (h2 : X.heap[sb]? = some (.cells #[sV cur] 9 (0, 0))) : Calls Tryz.prog 38 #[.int .u8 q, sV word, pB nb, pB sb] X fun e w' => e = .returned (.tuple #[]) ∧ w' = X.setCell ⟨sb, 0, none⟩ (sV (cur ++ 32 :: word)) := by
  have hc : X.cell? ⟨sb, 0, none⟩ = some (sV cur) := (fields5 _ _ _ _ _ h2 0).trans rfl
  have hf := frozen_of_row _ _ 0 _ _ h2
  have HAP : Hid ((⟨cur.toArray⟩ ++ (⟨#[32]⟩ ++ ⟨word.toArray⟩) : ByteArray) = ⟨(cur ++ 32 :: word).toArray⟩) := by
    show _ = _
    rw [show (⟨#[32]⟩ : ByteArray) = ⟨([32] : List UInt8).toArray⟩ from rfl, bytes_app, bytes_app]; rfl
  have hl1 : ¬9223372036854775807 < 1 + word.length := by omega
  have hl2 : ¬9223372036854775807 < cur.length + (1 + word.length) := by omega
  unfold sV pB at *
  go_enter Tryz.func38, Tryz.ntmps38
  go_wp2
  go_end0
  exact ⟨rfl, by rw [HAP.out]⟩
set_option maxHeartbeats 1000000 in
set_option maxRecDepth 100000 in
theorem tell_no (P q : Int) (hq : (bits .and .u8 P q != 0) = false) (word : List UInt8) (nb sb : Nat) (X : World) (h1 : X.cell? ⟨nb, 0, none⟩ = some (.int .u8 P)) : Calls Tryz.prog 38 #[.int .u8 q, sV word, pB nb, pB sb] X fun e w' => e = .returned (.tuple #[]) ∧ w' = X := by
  unfold sV pB at *
  go_enter Tryz.func38, Tryz.ntmps38
  go_wp2
  go_end0
  exact ⟨rfl, rfl⟩
/-- One part more, where it is named. -/
theorem tell_tx {w : World} {nb : Nat} {i : Ins} {P : Int} {cur : List UInt8} {X : World} (h : TX w nb i P cur X) (q : Int) (f : Bool) (hf : (bits .and .u8 P q != 0) = f) (word cur' : List UInt8) (hl : cur.length + word.length < 1000000) (hc : cur' = if f then cur ++ 32 :: word else cur) :
    Calls Tryz.prog 38 #[.int .u8 q, sV word, pB nb, pB (nb + 1)] X fun e w' => e = .returned (.tuple #[]) ∧ TX w nb i P cur' w' := by
  have h1 : X.cell? ⟨nb, 0, none⟩ = some (.int .u8 P) := (fields5 _ _ _ _ _ h.n 0).trans rfl
  cases f with
  | false =>
    refine (tell_no P q hf word nb (nb + 1) X h1).mono fun e w' hh => ⟨hh.1, ?_⟩
    rw [hh.2, hc]; exact h
  | true =>
    refine (tell_yes P q hf word cur hl nb (nb + 1) X h1 h.s).mono fun e w' hh => ⟨hh.1, ?_⟩
    rw [hh.2, hc]
    have kp : ∀ j, j ≠ nb + 1 → (X.setCell ⟨nb + 1, 0, none⟩ (sV (cur ++ 32 :: word))).heap[j]? = X.heap[j]? := fun j hj => heap_setCell_other _ _ _ _ (by show j ≠ nb + 1; exact hj)
    have hlt := h.lt
    refine ⟨h.bel.setCell (p := ⟨nb + 1, 0, none⟩) (by show w.heap.size ≤ nb + 1; omega) _, h.lt, (kp _ (by omega)).trans h.gi, (kp _ (by omega)).trans h.n, ?_, h.gv⟩
    exact heap_setCell_same _ _ 0 _ _ _ h.s
theorem GV.ofTX {w : World} {nb : Nat} {i : Ins} {P : Int} {cur : List UInt8} {X : World} (h : TX w nb i P cur X) : GV X := h.gv.below h.bel
theorem itoa_small (n : Nat) (h : n < 8) (X : World) : Calls Tryz.prog 39 #[.int .i64 (n : Int)] X fun e w' => e = .returned (sV (Lib.itoa (n : Int))) ∧ w' = X := by
  rw [Lib.itoa_nonneg]; exact Tryz.strconv_Itoa_small n (by omega) X
theorem fmt_any (n : Int) (h0 : -2147483648 ≤ n) (h1 : n ≤ 2147483647) (X : World) (hv : GV X) : Calls Tryz.prog 40 #[.int .i64 n, .int .i64 10] X fun e w' => e = .returned (sV (Lib.itoa n)) ∧ Below X.heap.size X w' :=
  (Tryz.strconv_FormatInt_10 n (by omega) (by omega) X hv.tab).mono fun e w' hh => ⟨hh.1, by obtain ⟨k, os, rfl⟩ := hh.2; exact below_grow X k os⟩
theorem itoa_len (n : Int) (h0 : -2147483648 ≤ n) (h1 : n ≤ 2147483647) : (Lib.itoa n).length ≤ 21 := Lib.itoa_length_le n (by omega) (by omega)
theorem nm_len (k : Int) : (nm k).length ≤ 10 := by
  unfold nm
  have h : ∀ x ∈ nmL, x.length ≤ 10 := by decide
  rw [List.getD_eq_getElem?_getD]
  cases hx : nmL[k.toNat]? with
  | none => simp
  | some x => exact h x (List.mem_of_getElem? hx)
set_option maxHeartbeats 1000000 in
set_option maxRecDepth 100000 in
theorem text_bad (i : Ins) (h : iwf i) (hm : may i = false) (w : World) : Calls Tryz.prog 21 #[iV i] w fun e w' => e = .returned (.tuple #[.string ⟨#[]⟩, .int .i64 2]) ∧ Below w.heap.size w w' := by
  have hM := fun W => may_any i h W
  rw [hm] at hM
  clear hm h
  obtain ⟨op, d, a, b, imm⟩ := i
  unfold iV at *
  simp only at *
  obtain ⟨W0, hW0⟩ : ∃ W0, W0 = w.alloc (.cells #[.int .i64 op, .int .i64 d, .int .i64 a, .int .i64 b, .int .i64 imm] 41 (0, 0)) := ⟨_, rfl⟩
  have HBW : Hid (Below w.heap.size w W0) := by rw [hW0]; exact (Below.refl _ _).alloc (Nat.le_refl _) _
  rw [hW0] at HBW
  clear hW0 W0
  go_enter Tryz.func21, Tryz.ntmps21
  go_wp2_with (go_at_call 26; refine Calls.mono (hM _) ?_; rintro e wq ⟨rfl, hbq⟩)
  go_ret2
  exact ⟨rfl, HBW.out.trans (hbq.mono HBW.out.size)⟩
set_option maxHeartbeats 1000000 in
set_option maxRecDepth 100000 in
theorem text_ok (i : Ins) (h : iwf i) (hm : may i = true) (w : World) (hG : GV w) : Calls Tryz.prog 21 #[iV i] w fun e w' => e = .returned (.tuple #[sV (txt i), .int .i64 0]) ∧ Below w.heap.size w w' := by
  have hM := fun W => may_any i h W
  rw [hm] at hM
  obtain ⟨m1, m2, m3, m4, m5, m6, m7, m8, m9, m10⟩ := may_bd hm
  obtain ⟨m0, _⟩ := may_parts hm
  obtain ⟨on, hon⟩ : ∃ n : Nat, i.op = n := ⟨i.op.toNat, by omega⟩
  obtain ⟨dn, hdn⟩ : ∃ n : Nat, i.d = n := ⟨i.d.toNat, by omega⟩
  obtain ⟨an, han⟩ : ∃ n : Nat, i.a = n := ⟨i.a.toNat, by omega⟩
  obtain ⟨bn, hbn⟩ : ∃ n : Nat, i.b = n := ⟨i.b.toNat, by omega⟩
  have hP := fun W => partsOf_any i.op W
  obtain ⟨q1, q2, q3, q4⟩ := pt_bits i.op
  rw [m0, Bool.true_and] at q1 q2 q3 q4
  rw [m0] at hP
  have HT : Hid (txt i = (((nm i.op ++ rw_ (fd i.op) i.d) ++ rw_ (fa i.op) i.a) ++ rw_ (fb i.op) i.b) ++ iw (fi i.op) i.imm) := by show _ = _; unfold txt; simp only [List.append_assoc]
  have HNM : Hid (nmV[on]? = some (sV (nm i.op))) := by
    show _ = _
    rw [nmV_get on (by omega)]; unfold nm; rw [hon]; rfl
  have L0 := nm_len i.op
  have L1 := itoa_len i.d (by omega) (by omega)
  have L2 := itoa_len i.a (by omega) (by omega)
  have L3 := itoa_len i.b (by omega) (by omega)
  have L4 := itoa_len i.imm (by omega) (by omega)
  have R1 : ∀ f x, (rw_ f x).length ≤ 2 + (Lib.itoa x).length := fun f x => by unfold rw_; split <;> simp <;> omega
  have hR1 := R1 (fd i.op) i.d
  have hR2 := R1 (fa i.op) i.a
  have hR3 := R1 (fb i.op) i.b
  obtain ⟨T1, hT1⟩ : ∃ T, T = nm i.op ++ rw_ (fd i.op) i.d := ⟨_, rfl⟩
  obtain ⟨T2, hT2⟩ : ∃ T, T = T1 ++ rw_ (fa i.op) i.a := ⟨_, rfl⟩
  obtain ⟨T3, hT3⟩ : ∃ T, T = T2 ++ rw_ (fb i.op) i.b := ⟨_, rfl⟩
  have l1 : T1.length ≤ 40 := by rw [hT1]; simp; omega
  have l2 : T2.length ≤ 70 := by rw [hT2]; simp; omega
  have l3 : T3.length ≤ 100 := by rw [hT3]; simp; omega
  rw [← hT1, ← hT2, ← hT3] at HT
  have HK1 : Hid (∀ nb X, TX w nb i (ptv i.op) (nm i.op) X → Calls Tryz.prog 38 #[.int .u8 1, sV (114 :: Lib.itoa i.d), pB nb, pB (nb + 1)] X fun e w' => e = .returned (.tuple #[]) ∧ TX w nb i (ptv i.op) T1 w') := fun nb X hX => tell_tx hX 1 _ q1 _ _ (by simp; omega) (by rw [hT1]; unfold rw_; split <;> simp)
  have HK2 : Hid (∀ nb X, TX w nb i (ptv i.op) T1 X → Calls Tryz.prog 38 #[.int .u8 2, sV (114 :: Lib.itoa i.a), pB nb, pB (nb + 1)] X fun e w' => e = .returned (.tuple #[]) ∧ TX w nb i (ptv i.op) T2 w') := fun nb X hX => tell_tx hX 2 _ q2 _ _ (by simp; omega) (by rw [hT2]; unfold rw_; split <;> simp)
  have HK3 : Hid (∀ nb X, TX w nb i (ptv i.op) T2 X → Calls Tryz.prog 38 #[.int .u8 4, sV (114 :: Lib.itoa i.b), pB nb, pB (nb + 1)] X fun e w' => e = .returned (.tuple #[]) ∧ TX w nb i (ptv i.op) T3 w') := fun nb X hX => tell_tx hX 4 _ q3 _ _ (by simp; omega) (by rw [hT3]; unfold rw_; split <;> simp)
  have HK4 : Hid (∀ nb X, TX w nb i (ptv i.op) T3 X → Calls Tryz.prog 38 #[.int .u8 8, sV (Lib.itoa i.imm), pB nb, pB (nb + 1)] X fun e w' => e = .returned (.tuple #[]) ∧ TX w nb i (ptv i.op) (txt i) w') := fun nb X hX => tell_tx hX 8 _ q4 _ _ (by omega) (by rw [HT.out]; unfold iw; split <;> simp)
  have HF : Hid (∀ X, GV X → Calls Tryz.prog 40 #[.int .i64 i.imm, .int .i64 10] X fun e w' => e = .returned (sV (Lib.itoa i.imm)) ∧ Below X.heap.size X w') := fun X hX => fmt_any i.imm m9 m10 X hX
  have HI1 : Hid (∀ X, Calls Tryz.prog 39 #[.int .i64 i.d] X fun e w' => e = .returned (sV (Lib.itoa i.d)) ∧ w' = X) := fun X => by rw [hdn]; exact itoa_small dn (by omega) X
  have HI2 : Hid (∀ X, Calls Tryz.prog 39 #[.int .i64 i.a] X fun e w' => e = .returned (sV (Lib.itoa i.a)) ∧ w' = X) := fun X => by rw [han]; exact itoa_small an (by omega) X
  have HI3 : Hid (∀ X, Calls Tryz.prog 39 #[.int .i64 i.b] X fun e w' => e = .returned (sV (Lib.itoa i.b)) ∧ w' = X) := fun X => by rw [hbn]; exact itoa_small bn (by omega) X
  have hoi : (on : Int) < 18 := by omega
  have HAP : Hid (∀ x : Int, (⟨#[114]⟩ ++ ⟨(Lib.itoa x).toArray⟩ : ByteArray) = ⟨(114 :: Lib.itoa x).toArray⟩) := fun x => bytes_app [114] _
  have HX0 : Hid (∀ Y, Below (w.alloc (.cells (iL i).toArray 41 (0, 0))).heap.size (w.alloc (.cells (iL i).toArray 41 (0, 0))) Y → TX w Y.heap.size i (ptv i.op) (nm i.op) ((Y.alloc (.cells #[.int .u8 (ptv i.op)] 92 (0, 0))).alloc (.cells #[sV (nm i.op)] 9 (0, 0))) ∧ GV Y) := fun Y hb => by
    have hb1 : Below w.heap.size w (w.alloc (.cells (iL i).toArray 41 (0, 0))) := (Below.refl _ _).alloc (Nat.le_refl _) _
    have hbY := hb1.trans (hb.mono hb1.size)
    have hsz : w.heap.size < Y.heap.size := by have := hb.size; simp at this; omega
    have hbX : Below Y.heap.size Y ((Y.alloc (.cells #[.int .u8 (ptv i.op)] 92 (0, 0))).alloc (.cells #[sV (nm i.op)] 9 (0, 0))) := ((Below.refl _ _).alloc (Nat.le_refl _) _).alloc (by simp) _
    exact ⟨⟨hbY.trans (hbX.mono hbY.size), hsz, (hbX.block _ hsz).trans ((hb.block _ (by simp)).trans (heap_alloc_new _ _)), (heap_alloc_old _ _ (by simp)).trans (heap_alloc_new _ _), heap_at _ _ _ (by simp), hG⟩, hG.below hbY⟩
  have hl1 : ¬9223372036854775807 < 1 + (Lib.itoa i.d).length := by omega
  have hl2 : ¬9223372036854775807 < 1 + (Lib.itoa i.a).length := by omega
  have hl3 : ¬9223372036854775807 < 1 + (Lib.itoa i.b).length := by omega
  have hap := HAP.out
  have HON : Hid _ := hon
  have hpt : ptv (on : Int) = ptv i.op := by rw [← hon]
  rw [hon] at hP
  rw [hpt] at hP
  clear hpt HAP R1 hR1 hR2 hR3 L0 L1 L2 L3 L4 l1 l2 l3 hT1 hT2 hT3 m1 m2 m3 m4 m5 m6 m7 m8 m9 m10 m0 q1 q2 q3 q4 hdn han hbn hon hm h HT
  generalize ptv i.op = P at *
  generalize hNMO : nm i.op = NMO at *
  unfold iV at *
  unfold sV pB at *
  go_enter Tryz.func21, Tryz.ntmps21
  go_wp2_with fail
  refine Calls.mono (hM _) ?_
  rintro e Y ⟨rfl, hbY⟩
  obtain ⟨hX, hGY⟩ := HX0.out Y hbY
  have hc0 : Y.cell? ⟨w.heap.size, 0, none⟩ = some (.int .i64 (on : Int)) := by
    rw [← HON.out]
    have h0 : (w.alloc (.cells (iL i).toArray 41 (0, 0))).cell? ⟨w.heap.size, 0, none⟩ = some (.int .i64 i.op) := (fields5 _ _ _ _ _ (heap_alloc_new _ _) 0).trans rfl
    exact (hbY.cell (block_lt h0)).trans h0
  have hnc : Y.cell? ⟨0, on, none⟩ = some (.string ⟨NMO.toArray⟩) := by
    have := hGY.nt.row on _ HNM.out
    rw [Nat.zero_add] at this; exact this
  have hba : Below Y.heap.size Y (Y.alloc (.cells #[.int .u8 P] 92 (0, 0))) := (Below.refl _ _).alloc (Nat.le_refl _) _
  have hc0' := (hba.cell (block_lt hc0)).trans hc0
  have hnc' := (hba.cell (block_lt hnc)).trans hnc
  have hc1 := hX.ci 1 _ rfl
  have HX : Hid _ := hX
  clear hbY hba hM HX0 hGY HNM hX
  go_wp2_with (first
    | (go_at_call 37; refine Calls.mono (hP _) ?_; rintro e wq ⟨rfl, rfl⟩)
    | (go_at_call 39; refine Calls.mono (HI1.out _) ?_; rintro e wq ⟨rfl, rfl⟩))
  refine Calls.mono (HK1.out _ _ HX.out) ?_
  rintro e X1 ⟨rfl, hX1⟩
  have hd1 := hX1.ci 2 _ rfl
  have HX1 : Hid _ := hX1
  clear hX1 hc1 HX hc0 hc0' hnc hnc' HK1 HI1 hP hl1
  go_wp2_with (go_at_call 39; refine Calls.mono (HI2.out _) ?_; rintro e wq ⟨rfl, rfl⟩)
  refine Calls.mono (HK2.out _ _ HX1.out) ?_
  rintro e X2 ⟨rfl, hX2⟩
  have hd2 := hX2.ci 3 _ rfl
  have HX2 : Hid _ := hX2
  clear hX2 hd1 HX1 HK2 HI2 hl2
  go_wp2_with (go_at_call 39; refine Calls.mono (HI3.out _) ?_; rintro e wq ⟨rfl, rfl⟩)
  refine Calls.mono (HK3.out _ _ HX2.out) ?_
  rintro e X3 ⟨rfl, hX3⟩
  have hd3 := hX3.ci 4 _ rfl
  have HX3 : Hid _ := hX3
  clear hX3 hd2 HX2 HK3 HI3 hl3
  go_wp2_with (go_at_call 40; refine Calls.mono (HF.out _ (GV.ofTX HX3.out)) ?_; rintro e X4 ⟨rfl, hb4⟩; (have HX4 : Hid _ := HX3.out.below hb4); clear hb4 HX3 hd3)
  refine Calls.mono (HK4.out _ _ HX4.out) ?_
  rintro e X5 ⟨rfl, hX5⟩
  have hd5 := (fields5 _ _ _ _ _ hX5.s 0).trans (show _ = some (Value.string ⟨(txt i).toArray⟩) by rfl)
  have HX5 : Hid _ := hX5
  clear hX5 HX4 HK4
  go_wp2
  go_ret2
  exact ⟨rfl, HX5.out.bel⟩
/-- Text, of any. -/
def txtRes (i : Ins) : Value := if may i = true then .tuple #[sV (txt i), .int .i64 0] else .tuple #[sV [], .int .i64 2]
theorem text_any (i : Ins) (h : iwf i) (w : World) (hG : GV w) : Calls Tryz.prog 21 #[iV i] w fun e w' => e = .returned (txtRes i) ∧ Below w.heap.size w w' := by
  unfold txtRes
  cases hm : may i
  · exact text_bad i h hm w
  · exact text_ok i h hm w hG
end Go.Proofs.YtkpjfhphohanlaaGreatDoor.JC
