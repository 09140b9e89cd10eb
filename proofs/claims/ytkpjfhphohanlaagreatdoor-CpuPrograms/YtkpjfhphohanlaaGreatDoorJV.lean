/- cpu: read and Untext. -/
import Derived.Test.YtkpjfhphohanlaaGreatDoorJU
set_option linter.unusedVariables false
set_option linter.unusedSimpArgs false
namespace Go.Proofs.YtkpjfhphohanlaaGreatDoor.JC
open Go.RowKit
open Go.Proofs.YtkpjfhphohanlaaGreatDoor.EC (row_lt heap_at rangeAt_below rangeAt_row ret_bool ret_i64 beq_int)

theorem below_drewN (w : World) (n : Nat) : Below w.heap.size w (w.drewN n) := ⟨rfl, rfl, rfl, Nat.le_refl _, fun _ _ => rfl⟩
set_option maxHeartbeats 1000000 in
theorem parse_any (l : List UInt8) (hl : l.length ≤ 281474976710656) (X : World) (hG : GV X) : Calls Tryz.prog 67 #[sV l, .int .i64 10, .int .i64 32] X fun e w' => (∃ v, e = .returned (.tuple #[.int .i64 (pI l), v])) ∧ Below X.heap.size X w' := by
  have hsz : (⟨l.toArray⟩ : ByteArray).size = l.length := by simp [ByteArray.size]
  have hsz2 : (⟨l.toArray⟩ : ByteArray).size ≤ 281474976710656 := by rw [hsz]; exact hl
  have hsz3 : (⟨l.toArray⟩ : ByteArray).size ≤ 9223372036854775806 := Nat.le_trans hsz2 (by decide)
  cases hp : Lib.parseIntB 32 l with
  | ok v =>
    have e : pI l = v := by unfold pI; rw [hp]
    rw [e]
    refine (Tryz.strconv_ParseInt_10_at32_ok ⟨l.toArray⟩ hsz3 v hp X).mono fun e w' hh => ⟨⟨_, hh.1⟩, ?_⟩
    rcases hh.2 with h | ⟨t, h⟩
    · rw [h]; exact Below.refl _ _
    · rw [h]; exact Lib.bytesWorld_below _ _ _
  | range =>
    have e : pI l = Lib.intSat 32 l := by unfold pI; rw [hp]
    rw [e]
    obtain ⟨tp, p, hv⟩ := hG.er
    refine (Tryz.strconv_ParseInt_10_at32_range_var ⟨l.toArray⟩ hsz2 hp tp p X hv).mono fun e w' hh => ?_
    obtain ⟨N, h1, _, _, h4⟩ := hh
    exact ⟨⟨_, h1⟩, h4⟩
  | _ =>
    have e : pI l = 0 := by unfold pI; rw [hp]
    rw [e]
    obtain ⟨tp, p, hv⟩ := hG.es
    refine (Tryz.strconv_ParseInt_10_at32_syntax_var ⟨l.toArray⟩ hsz2 (hp.trans rfl) tp p X hv).mono fun e w' hh => ?_
    obtain ⟨N, h1, _, _, h4⟩ := hh
    exact ⟨⟨_, h1⟩, h4⟩
theorem trim_any (l : List UInt8) (X : World) : Calls Tryz.prog 68 #[sV l, .string ⟨#[114]⟩] X fun e w' => e = .returned (sV (Lib.trimPrefix l [114])) ∧ w' = X := Tryz.strings_TrimPrefix ⟨l.toArray⟩ ⟨#[114]⟩ X
theorem trim_len (l : List UInt8) : (Lib.trimPrefix l [114]).length ≤ l.length := by unfold Lib.trimPrefix; split <;> simp
/-- While a text is read. -/
structure RX (w : World) (i : Ins) (P : Int) (rest : List UInt8) (X : World) : Prop where
  bel : Below w.heap.size w X
  z : X.heap[w.heap.size]? = some (.cells (iL ⟨0, 0, 0, 0, 0⟩).toArray 41 (0, 0))
  r : X.heap[w.heap.size + 1]? = some (.cells #[sV rest] 9 (0, 0))
  i : X.heap[w.heap.size + 1 + 1]? = some (.cells (iL i).toArray 41 (0, 0))
  n : X.heap[w.heap.size + 1 + 1 + 1]? = some (.cells #[.int .u8 P] 92 (0, 0))
  gv : GV w
theorem RX.below {w : World} {i : Ins} {P : Int} {rest : List UInt8} {X Y : World} (h : RX w i P rest X) (hb : Below X.heap.size X Y) : RX w i P rest Y :=
  ⟨h.bel.trans (hb.mono h.bel.size), (hb.block _ (row_lt h.z)).trans h.z, (hb.block _ (row_lt h.r)).trans h.r, (hb.block _ (row_lt h.i)).trans h.i, (hb.block _ (row_lt h.n)).trans h.n, h.gv⟩
theorem RX.setr {w : World} {i : Ins} {P : Int} {rest : List UInt8} {X : World} (h : RX w i P rest X) (r2 : List UInt8) : RX w i P r2 (X.setCell ⟨w.heap.size + 1, 0, none⟩ (sV r2)) := by
  have kp : ∀ j, j ≠ w.heap.size + 1 → (X.setCell ⟨w.heap.size + 1, 0, none⟩ (sV r2)).heap[j]? = X.heap[j]? := fun j hj => heap_setCell_other _ _ _ _ (by show j ≠ w.heap.size + 1; exact hj)
  exact ⟨h.bel.setCell (p := ⟨w.heap.size + 1, 0, none⟩) (by show w.heap.size ≤ w.heap.size + 1; omega) _, (kp _ (by omega)).trans h.z, heap_setCell_same _ _ 0 _ _ _ h.r, (kp _ (by omega)).trans h.i, (kp _ (by omega)).trans h.n, h.gv⟩
theorem RX.seti {w : World} {i : Ins} {P : Int} {rest : List UInt8} {X : World} (h : RX w i P rest X) (k : Nat) (v : Value) (i2 : Ins) (hi : (iL i).set k v = iL i2) : RX w i2 P rest (X.setCell ⟨w.heap.size + 1 + 1, k, none⟩ v) := by
  have kp : ∀ j, j ≠ w.heap.size + 1 + 1 → (X.setCell ⟨w.heap.size + 1 + 1, k, none⟩ v).heap[j]? = X.heap[j]? := fun j hj => heap_setCell_other _ _ _ _ (by show j ≠ w.heap.size + 1 + 1; exact hj)
  refine ⟨h.bel.setCell (p := ⟨w.heap.size + 1 + 1, k, none⟩) (by show w.heap.size ≤ w.heap.size + 1 + 1; omega) _, (kp _ (by omega)).trans h.z, (kp _ (by omega)).trans h.r, ?_, (kp _ (by omega)).trans h.n, h.gv⟩
  rw [← hi, ← List.setIfInBounds_toArray]
  exact heap_setCell_same _ _ k _ _ _ h.i
theorem RX.G {w : World} {i : Ins} {P : Int} {rest : List UInt8} {X : World} (h : RX w i P rest X) : GV X := h.gv.below h.bel
set_option maxHeartbeats 1000000 in
set_option maxRecDepth 100000 in
theorem next_rx {w : World} {i : Ins} {P : Int} {rest : List UInt8} {X : World} (h : RX w i P rest X) (hl : rest.length ≤ 1000000) (q : Int) (f : Bool) (hf : (bits .and .u8 P q == 0) = !f) :
    Calls Tryz.prog 66 #[.int .u8 q, pB (w.heap.size + 1 + 1 + 1), pB (w.heap.size + 1)] X fun e w' => e = .returned (.int .i64 (nx f rest)) ∧ RX w i P (nr f rest) w' := by
  have h1 : X.cell? ⟨w.heap.size + 1 + 1 + 1, 0, none⟩ = some (.int .u8 P) := (fields5 _ _ _ _ _ h.n 0).trans rfl
  have h2 : X.cell? ⟨w.heap.size + 1, 0, none⟩ = some (sV rest) := (fields5 _ _ _ _ _ h.r 0).trans rfl
  have HR : Hid _ := h
  cases f with
  | false =>
    have hf' : (bits .and .u8 P q == 0) = true := hf
    have e1 : nx false rest = 0 := rfl
    have e2 : nr false rest = rest := rfl
    rw [e1, e2]
    clear h hf
    unfold sV pB at *
    go_enter Tryz.func66, Tryz.ntmps66
    go_wp2
    go_ret
    exact ⟨rfl, HR.out⟩
  | true =>
    have hf' : (bits .and .u8 P q == 0) = false := hf
    have e1 : nx true rest = pI (Lib.trimPrefix (ct1 32 rest) [114]) := rfl
    have e2 : nr true rest = ct2 32 rest := rfl
    rw [e1, e2]
    have hC := fun W => cut_any rest 32 (by omega) W
    have hT := fun W => trim_any (ct1 32 rest) W
    have hc1 := ct1_len 32 rest
    have hc3 := trim_len (ct1 32 rest)
    have HP : Hid (∀ W, GV W → Calls Tryz.prog 67 #[sV (Lib.trimPrefix (ct1 32 rest) [114]), .int .i64 10, .int .i64 32] W fun e w' => (∃ v, e = .returned (.tuple #[.int .i64 (pI (Lib.trimPrefix (ct1 32 rest) [114])), v])) ∧ Below W.heap.size W w') := fun W hW => parse_any _ (by omega) W hW
    generalize pI (Lib.trimPrefix (ct1 32 rest) [114]) = PV at *
    generalize Lib.trimPrefix (ct1 32 rest) [114] = TP at *
    generalize ct1 32 rest = C1 at *
    generalize ct2 32 rest = C2 at *
    clear h hf e1 e2 hc1 hc3
    unfold sV pB at *
    go_enter Tryz.func66, Tryz.ntmps66
    go_wp2_with fail
    refine Calls.mono (hC _) ?_
    rintro e Y ⟨⟨b, rfl⟩, n, rfl⟩
    have HY : Hid (RX w i P rest (X.drewN n)) := HR.out.below (below_drewN X n)
    clear HR h1 h2 hC
    generalize X.drewN n = Y at *
    have h2 : Y.cell? ⟨w.heap.size + 1, 0, none⟩ = some (.string ⟨rest.toArray⟩) := (fields5 _ _ _ _ _ HY.out.r 0).trans rfl
    have hfr := frozen_of_row _ _ 0 _ _ HY.out.r
    have HZ : Hid (RX w i P C2 (Y.setCell ⟨w.heap.size + 1, 0, none⟩ (.string ⟨C2.toArray⟩))) := HY.out.setr C2
    go_wp2_with (first
      | (go_at_call 68; refine Calls.mono (hT _) ?_; rintro e wq ⟨rfl, rfl⟩)
      | (go_at_call 67; refine Calls.mono (HP.out _ HZ.out.G) ?_; rintro e V ⟨⟨v, rfl⟩, hbV⟩))
    go_ret
    exact ⟨rfl, HZ.out.below hbV⟩
theorem nr_len (f : Bool) (s : List UInt8) : (nr f s).length ≤ s.length := by unfold nr; split; exact ct2_len _ _; exact Nat.le_refl _
theorem nx_bd (f : Bool) (s : List UInt8) : -2147483648 ≤ nx f s ∧ nx f s ≤ 2147483647 := by
  unfold nx pW; split
  · exact pI_bd _
  · constructor <;> decide
set_option maxHeartbeats 1000000 in
set_option maxRecDepth 100000 in
theorem read_any (s : List UInt8) (hl : s.length ≤ 1000000) (w : World) (hG : GV w) : Calls Tryz.prog 29 #[sV s] w fun e w' => e = .returned (iV (rd s)) ∧ Below w.heap.size w w' := by
  have hC := fun W => cut_any s 32 (by omega) W
  have HO : Hid (∀ W, GV W → Calls Tryz.prog 65 #[sV (ct1 32 s)] W fun e w' => e = .returned (.int .i64 (opOf (ct1 32 s))) ∧ W = w') := fun W hW => opOf_any _ W hW.nt
  have HRD : Hid (rd s = ⟨opOf (ct1 32 s), nx (fd (opOf (ct1 32 s))) (ct2 32 s), nx (fa (opOf (ct1 32 s))) (nr (fd (opOf (ct1 32 s))) (ct2 32 s)), nx (fb (opOf (ct1 32 s))) (nr (fa (opOf (ct1 32 s))) (nr (fd (opOf (ct1 32 s))) (ct2 32 s))), nx (fi (opOf (ct1 32 s))) (nr (fb (opOf (ct1 32 s))) (nr (fa (opOf (ct1 32 s))) (nr (fd (opOf (ct1 32 s))) (ct2 32 s))))⟩) := rfl
  have hr0 := ct2_len 32 s
  generalize ct1 32 s = C1 at *
  generalize ct2 32 s = C2 at *
  have hOP : opOf C1 = 0 ∨ isOp (opOf C1) = true := by
    have hlen : nmL.length = 18 := rfl
    unfold opOf
    cases hx : nmL.findIdx? (fun x => decide (x = C1)) with
    | none => left; rfl
    | some k =>
      have hk := (List.findIdx?_eq_some_iff_getElem.1 hx).1
      by_cases h0 : k = 0
      · left; simp [h0]
      · right; show isOp (k : Int) = true
        unfold isOp; simp; omega
  have hP := fun W => partsOf_any (opOf C1) W
  obtain ⟨q1, q2, q3, q4⟩ := pt_bits (opOf C1)
  have F : ∀ (g : Int → Bool), g 0 = false → (isOp (opOf C1) && g (opOf C1)) = g (opOf C1) := fun g hg => by
    rcases hOP with h | h
    · rw [h, hg]; rfl
    · rw [h]; rfl
  rw [F fd rfl] at q1
  rw [F fa rfl] at q2
  rw [F fb rfl] at q3
  rw [F fi rfl] at q4
  generalize opOf C1 = op at *
  have nq : ∀ {x : Int} {g : Bool}, (x != 0) = g → (x == 0) = !g := fun {x g} h => by rw [← h]; simp [bne]
  have z1 := nr_len (fd op) C2
  have z2 := nr_len (fa op) (nr (fd op) C2)
  have z3 := nr_len (fb op) (nr (fa op) (nr (fd op) C2))
  have HK1 : Hid (∀ i X, RX w i (ptv op) C2 X → Calls Tryz.prog 66 #[.int .u8 1, pB (w.heap.size + 1 + 1 + 1), pB (w.heap.size + 1)] X fun e w' => e = .returned (.int .i64 (nx (fd op) C2)) ∧ RX w i (ptv op) (nr (fd op) C2) w') := fun i X hX => next_rx hX (by omega) 1 _ (nq q1)
  have HK2 : Hid (∀ i X, RX w i (ptv op) (nr (fd op) C2) X → Calls Tryz.prog 66 #[.int .u8 2, pB (w.heap.size + 1 + 1 + 1), pB (w.heap.size + 1)] X fun e w' => e = .returned (.int .i64 (nx (fa op) (nr (fd op) C2))) ∧ RX w i (ptv op) (nr (fa op) (nr (fd op) C2)) w') := fun i X hX => next_rx hX (by omega) 2 _ (nq q2)
  have HK3 : Hid (∀ i X, RX w i (ptv op) (nr (fa op) (nr (fd op) C2)) X → Calls Tryz.prog 66 #[.int .u8 4, pB (w.heap.size + 1 + 1 + 1), pB (w.heap.size + 1)] X fun e w' => e = .returned (.int .i64 (nx (fb op) (nr (fa op) (nr (fd op) C2)))) ∧ RX w i (ptv op) (nr (fb op) (nr (fa op) (nr (fd op) C2))) w') := fun i X hX => next_rx hX (by omega) 4 _ (nq q3)
  have HK4 : Hid (∀ i X, RX w i (ptv op) (nr (fb op) (nr (fa op) (nr (fd op) C2))) X → Calls Tryz.prog 66 #[.int .u8 8, pB (w.heap.size + 1 + 1 + 1), pB (w.heap.size + 1)] X fun e w' => e = .returned (.int .i64 (nx (fi op) (nr (fb op) (nr (fa op) (nr (fd op) C2))))) ∧ RX w i (ptv op) (nr (fi op) (nr (fb op) (nr (fa op) (nr (fd op) C2)))) w') := fun i X hX => next_rx hX (by omega) 8 _ (nq q4)
  generalize nx (fd op) C2 = D at *
  generalize nr (fd op) C2 = R1 at *
  generalize nx (fa op) R1 = A at *
  generalize nr (fa op) R1 = R2 at *
  generalize nx (fb op) R2 = B at *
  generalize nr (fb op) R2 = R3 at *
  generalize nx (fi op) R3 = M at *
  generalize nr (fi op) R3 = R4 at *
  generalize ptv op = P at *
  generalize isOp op = Iop at *
  clear z1 z2 z3 hr0 F nq q1 q2 q3 q4 hOP hl
  have hX0 : ∀ n, RX w ⟨op, 0, 0, 0, 0⟩ P C2 (((((w.alloc (.cells (iL ⟨0, 0, 0, 0, 0⟩).toArray 41 (0, 0))).drewN n).alloc (.cells #[sV C2] 9 (0, 0))).alloc (.cells (iL ⟨op, 0, 0, 0, 0⟩).toArray 41 (0, 0))).alloc (.cells #[.int .u8 P] 92 (0, 0))) := fun n => by
    have hold : ∀ (W : World) (o : Obj) (k : Nat), k < W.heap.size → (W.alloc o).heap[k]? = W.heap[k]? := fun W o k hk => heap_alloc_old _ _ hk
    have hsz : ((w.alloc (.cells (iL ⟨0, 0, 0, 0, 0⟩).toArray 41 (0, 0))).drewN n).heap.size = w.heap.size + 1 := by show (World.alloc _ _).heap.size = _; simp
    have h0 : Below w.heap.size w ((w.alloc (.cells (iL ⟨0, 0, 0, 0, 0⟩).toArray 41 (0, 0))).drewN n) := ((Below.refl _ _).alloc (Nat.le_refl _) _).trans ((below_drewN _ n).mono (by simp))
    refine ⟨((h0.alloc (by omega) _).alloc (by first | (simp; done) | (simp; omega)) _).alloc (by first | (simp; done) | (simp; omega)) _, ?_, ?_, ?_, ?_, hG⟩
    · rw [hold _ _ _ (by first | (simp; done) | (simp; omega)), hold _ _ _ (by first | (simp; done) | (simp; omega)), hold _ _ _ (by omega)]; exact heap_alloc_new _ _
    · rw [hold _ _ _ (by first | (simp; done) | (simp; omega)), hold _ _ _ (by first | (simp; done) | (simp; omega))]; exact heap_at _ _ _ (by omega)
    · rw [hold _ _ _ (by first | (simp; done) | (simp; omega))]; exact heap_at _ _ _ (by first | (simp; done) | (simp; omega))
    · exact heap_at _ _ _ (by first | (simp; done) | (simp; omega))
  have HX0 : Hid _ := hX0
  have HGG : Hid (∀ n, GV (((w.alloc (.cells (iL ⟨0, 0, 0, 0, 0⟩).toArray 41 (0, 0))).drewN n).alloc (.cells #[sV C2] 9 (0, 0)))) := fun n => by
    have hsz : ((w.alloc (.cells (iL ⟨0, 0, 0, 0, 0⟩).toArray 41 (0, 0))).drewN n).heap.size = w.heap.size + 1 := by show (World.alloc _ _).heap.size = _; simp
    have h0 : Below w.heap.size w ((w.alloc (.cells (iL ⟨0, 0, 0, 0, 0⟩).toArray 41 (0, 0))).drewN n) := ((Below.refl _ _).alloc (Nat.le_refl _) _).trans ((below_drewN _ n).mono (by simp))
    exact hG.below (h0.alloc (by omega) _)
  clear hX0 hG
  unfold sV pB at *
  go_enter Tryz.func29, Tryz.ntmps29
  go_wp2_with (first
    | (go_at_call 17; refine Calls.mono (hC _) ?_; rintro e wq ⟨⟨b, rfl⟩, n, rfl⟩)
    | (go_at_call 65; refine Calls.mono (HO.out _ (HGG.out n)) ?_; rintro e wq ⟨rfl, rfl⟩)
    | (go_at_call 37; refine Calls.mono (hP _) ?_; rintro e wq ⟨rfl, rfl⟩))
  refine Calls.mono (HK1.out ⟨op, 0, 0, 0, 0⟩ _ (HX0.out n)) ?_
  rintro e X1 ⟨rfl, hX1⟩
  have hcX1 : X1.cell? ⟨w.heap.size + 1 + 1, 1, none⟩ = some (.int .i64 0) := (fields5 _ _ _ _ _ hX1.i 1).trans rfl
  have hfX1 := frozen_of_row _ _ 1 _ _ hX1.i
  have HY1 : Hid (RX w ⟨op, D, 0, 0, 0⟩ _ _ (X1.setCell ⟨w.heap.size + 1 + 1, 1, none⟩ (.int .i64 D))) := hX1.seti 1 _ _ rfl
  clear hX1
  clear HX0 HK1 HGG hC HO hP
  go_wp2_with fail
  clear hcX1 hfX1
  generalize X1.setCell ⟨w.heap.size + 1 + 1, 1, none⟩ (.int .i64 D) = Y1 at *
  refine Calls.mono (HK2.out ⟨op, D, 0, 0, 0⟩ _ HY1.out) ?_
  rintro e X2 ⟨rfl, hX2⟩
  have hcX2 : X2.cell? ⟨w.heap.size + 1 + 1, 2, none⟩ = some (.int .i64 0) := (fields5 _ _ _ _ _ hX2.i 2).trans rfl
  have hfX2 := frozen_of_row _ _ 2 _ _ hX2.i
  have HY2 : Hid (RX w ⟨op, D, A, 0, 0⟩ _ _ (X2.setCell ⟨w.heap.size + 1 + 1, 2, none⟩ (.int .i64 A))) := hX2.seti 2 _ _ rfl
  clear hX2
  clear HY1 HK2
  go_wp2_with fail
  clear hcX2 hfX2
  generalize X2.setCell ⟨w.heap.size + 1 + 1, 2, none⟩ (.int .i64 A) = Y2 at *
  refine Calls.mono (HK3.out ⟨op, D, A, 0, 0⟩ _ HY2.out) ?_
  rintro e X3 ⟨rfl, hX3⟩
  have hcX3 : X3.cell? ⟨w.heap.size + 1 + 1, 3, none⟩ = some (.int .i64 0) := (fields5 _ _ _ _ _ hX3.i 3).trans rfl
  have hfX3 := frozen_of_row _ _ 3 _ _ hX3.i
  have HY3 : Hid (RX w ⟨op, D, A, B, 0⟩ _ _ (X3.setCell ⟨w.heap.size + 1 + 1, 3, none⟩ (.int .i64 B))) := hX3.seti 3 _ _ rfl
  clear hX3
  clear HY2 HK3
  go_wp2_with fail
  clear hcX3 hfX3
  generalize X3.setCell ⟨w.heap.size + 1 + 1, 3, none⟩ (.int .i64 B) = Y3 at *
  refine Calls.mono (HK4.out ⟨op, D, A, B, 0⟩ _ HY3.out) ?_
  rintro e X4 ⟨rfl, hX4⟩
  have hcX4 : X4.cell? ⟨w.heap.size + 1 + 1, 4, none⟩ = some (.int .i64 0) := (fields5 _ _ _ _ _ hX4.i 4).trans rfl
  have hfX4 := frozen_of_row _ _ 4 _ _ hX4.i
  have HY4 : Hid (RX w ⟨op, D, A, B, M⟩ _ _ (X4.setCell ⟨w.heap.size + 1 + 1, 4, none⟩ (.int .i64 M))) := hX4.seti 4 _ _ rfl
  clear hX4
  clear HY3 HK4
  obtain ⟨IL, hIL⟩ : ∃ L, L = iL ⟨op, D, A, B, M⟩ := ⟨_, rfl⟩
  obtain ⟨ZL, hZL⟩ : ∃ L, L = iL ⟨0, 0, 0, 0, 0⟩ := ⟨_, rfl⟩
  have HI : Hid ((X4.setCell ⟨w.heap.size + 1 + 1, 4, none⟩ (.int .i64 M)).heap[w.heap.size + 1 + 1]? = some (.cells IL.toArray 41 (0, 0))) := by rw [hIL]; exact HY4.out.i
  have HZ : Hid ((X4.setCell ⟨w.heap.size + 1 + 1, 4, none⟩ (.int .i64 M)).heap[w.heap.size]? = some (.cells ZL.toArray 41 (0, 0))) := by rw [hZL]; exact HY4.out.z
  have HN : Hid ((Tryz.prog.info? 41).map (·.size) = some IL.length) := by rw [hIL]; exact ins_info _
  have HN2 : Hid ((Tryz.prog.info? 41).map (·.size) = some IL.toArray.size) := by rw [hIL]; exact ins_info _
  have HSZ : Hid (ZL.toArray.size = IL.toArray.size) := by show _ = _; rw [hZL, hIL]; rfl
  have H1 : Hid (IL.toArray.all (·.oneCell') = true) := by show _ = _; rw [hIL]; simp [iL, Value.oneCell']
  have HEQ : Hid (iV (rd s) = .agg IL.toArray) := by show _ = _; rw [HRD.out, hIL]; rfl
  have HB : Hid _ := HY4.out.bel
  clear hIL hZL HRD HY4
  go_wp2_with (first
    | (refine wpList_load_mid rfl 41 _ rfl (w.heap.size + 1 + 1) 0 rfl IL _ (rangeAt_row HI.out) Tryz.underlying41 rfl HN.out ?_)
    | (refine wpList_store_row rfl 41 _ _ rfl w.heap.size IL.toArray rfl rfl 41 ZL.toArray HZ.out HN2.out HSZ.out H1.out ?_))
  refine bodyPost_ret (v := .agg IL.toArray) (results1 Tryz.results29 _ _ w.heap.size (setRow_heap _ _ _ _ _ _ HZ.out) Tryz.underlying41 rfl HN.out rfl) rfl ⟨by rw [HEQ.out], below_setRow HB.out (Nat.le_refl _) _⟩
theorem rd_wf (s : List UInt8) : iwf (rd s) := by
  have hw : ∀ x : Int, -2147483648 ≤ x → x ≤ 2147483647 → (Lit.int .i64 x).wf = true := fun x h1 h2 => by
    simp [Lit.wf, IntKind.min, IntKind.max, IntKind.signed, IntKind.bits]; omega
  have ho : ∀ l, -2147483648 ≤ opOf l ∧ opOf l ≤ 2147483647 := fun l => by
    have hlen : nmL.length = 18 := rfl
    unfold opOf
    cases hx : nmL.findIdx? (fun x => decide (x = l)) with
    | none => constructor <;> decide
    | some k => have hk := (List.findIdx?_eq_some_iff_getElem.1 hx).1; show _ ≤ (k : Int) ∧ (k : Int) ≤ _; omega
  exact ⟨hw _ (ho _).1 (ho _).2, hw _ (nx_bd _ _).1 (nx_bd _ _).2, hw _ (nx_bd _ _).1 (nx_bd _ _).2, hw _ (nx_bd _ _).1 (nx_bd _ _).2, hw _ (nx_bd _ _).1 (nx_bd _ _).2⟩
end Go.Proofs.YtkpjfhphohanlaaGreatDoor.JC
