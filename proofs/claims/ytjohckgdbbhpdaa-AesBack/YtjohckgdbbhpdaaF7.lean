/- Contract of ref 4's Decipher. -/
import Derived.Test.YtjohckgdbbhpdaaE7
set_option linter.unusedVariables false
set_option linter.unusedSimpArgs false
namespace Go.Proofs.Ytjohckgdbbhpdaa
open Go.RowKit

/-- A table turned round, as far as n. -/
def bkR (t : List UInt8) : Nat → List UInt8
  | 0 => List.replicate 256 0
  | n + 1 => (bkR t n).set (t.getD n 0).toNat (UInt8.ofNat n)
theorem bkR_len (t : List UInt8) (n : Nat) : (bkR t n).length = 256 := by
  induction n with
  | zero => unfold bkR; exact List.length_replicate
  | succ n ih => unfold bkR; rw [List.length_set, ih]
/-- A table turned round. -/
def bkA (t : List UInt8) : List UInt8 := bkR t 256
/-- Rows turned back and bytes set back, as far as j. -/
def unP (bk m s : List UInt8) : Nat → List UInt8
  | 0 => s
  | j + 1 => (unP bk m s j).set (4 * ((j / 4 + j % 4) % 4) + j % 4) (bk.getD (m.getD j 0).toNat 0)
theorem unP_len (bk m s : List UInt8) (j n : Nat) (h : s.length = n) : (unP bk m s j).length = n := by
  induction j with
  | zero => exact h
  | succ j ih => unfold unP; rw [List.length_set, ih]
/-- What a round back makes of p ahead of the bytes: round number q. -/
def dmA (ks p : List UInt8) (q : Nat) : List UInt8 := if q < 10 then mxA (xrA p (keyA ks q)) [14, 11, 13, 9] else xrA p (keyA ks q)
/-- Rounds 10 down to 11 - n. -/
def decR (ks t s : List UInt8) : Nat → List UInt8
  | 0 => s
  | n + 1 => unP (bkA t) (dmA ks (decR ks t s n) (10 - n)) (decR ks t s n) 16
/-- A block back. -/
def decA (ks t s : List UInt8) : List UInt8 := xrA (decR ks t s 10) (keyA ks 0)
theorem decR_len (ks t s : List UInt8) (n : Nat) (hs : s.length = 16) : (decR ks t s n).length = 16 := by
  induction n with
  | zero => exact hs
  | succ n ih => exact unP_len _ _ _ 16 16 ih
theorem dmA_len (ks p : List UInt8) (q : Nat) (h : ks.length = 176) (hq : q < 11) (hp : p.length = 16) : (dmA ks p q).length = 16 := by
  unfold dmA
  by_cases h10 : q < 10
  · rw [if_pos h10]; exact mxA_len _ _
  · rw [if_neg h10]; exact xrA_len _ _ 16 hp (keyA_len ks q h hq)

theorem row_set (l : List UInt8) (i : Nat) (x : UInt8) : (l.map B8).toArray.setIfInBounds i (B8 x) = ((l.set i x).map B8).toArray := by
  rw [List.setIfInBounds_toArray, ← List.map_set]
/-- While the table is turned round. -/
def DB (w : World) (KA SA TA ZA : Array Value) (l : List UInt8) (wr : World) : Prop :=
  wr.heap[w.heap.size]? = some (.cells KA 29 (0, 0)) ∧ wr.heap[w.heap.size + 1]? = some (.cells SA 26 (0, 0)) ∧ wr.heap[w.heap.size + 1 + 1]? = some (.cells TA 27 (0, 0)) ∧ wr.heap[w.heap.size + 1 + 1 + 1]? = some (.cells ZA 26 (0, 0)) ∧ wr.heap[w.heap.size + 1 + 1 + 1 + 1]? = some (.cells (l.map B8).toArray 27 (0, 0)) ∧ Below w.heap.size w wr ∧ wr.heap.size = w.heap.size + 5
theorem DB.set {w : World} {KA SA TA ZA : Array Value} {l : List UInt8} {wr : World} (h : DB w KA SA TA ZA l wr) (i : Nat) (x : UInt8) : DB w KA SA TA ZA (l.set i x) (wr.setCell ⟨w.heap.size + 1 + 1 + 1 + 1, i, none⟩ (B8 x)) := by
  obtain ⟨h1, h2, h3, h4, h5, h6, h7⟩ := h
  have hb := (Below.refl (w.heap.size + 1 + 1 + 1 + 1) wr).setCell (p := ⟨w.heap.size + 1 + 1 + 1 + 1, i, none⟩) (Nat.le_refl _) (B8 x)
  refine ⟨(hb.block _ (by omega)).trans h1, (hb.block _ (by omega)).trans h2, (hb.block _ (by omega)).trans h3, (hb.block _ (by omega)).trans h4, ?_, h6.setCell (p := ⟨w.heap.size + 1 + 1 + 1 + 1, i, none⟩) (by show w.heap.size ≤ w.heap.size + 1 + 1 + 1 + 1; omega) _, by simpa using h7⟩
  rw [← row_set]; exact heap_setCell_same _ (w.heap.size + 1 + 1 + 1 + 1) i _ 27 _ h5
/-- What stays while Decipher runs; in block g lies l. -/
def DE (w : World) (KA BA : Array Value) (g : Nat) (l : List UInt8) (wr : World) : Prop :=
  wr.heap[w.heap.size]? = some (.cells KA 29 (0, 0)) ∧ wr.heap[w.heap.size + 1 + 1 + 1 + 1]? = some (.cells BA 27 (0, 0)) ∧ (∃ Z : Array Value, Z.size = 16 ∧ wr.heap[w.heap.size + 1 + 1 + 1]? = some (.cells Z 26 (0, 0))) ∧ wr.heap[g]? = some (.cells (l.map B8).toArray 26 (0, 0)) ∧ Below w.heap.size w wr
theorem DE.below {w : World} {KA BA : Array Value} {g B : Nat} {l : List UInt8} {a b : World} (h : DE w KA BA g l a) (hb : Below B a b) (hg : g < B) (hB : w.heap.size + 5 ≤ B) : DE w KA BA g l b := by
  obtain ⟨h1, h2, ⟨Z, z1, z2⟩, h3, h4⟩ := h
  exact ⟨(hb.block _ (by omega)).trans h1, (hb.block _ (by omega)).trans h2, ⟨Z, z1, (hb.block _ (by omega)).trans z2⟩, (hb.block _ hg).trans h3, h4.trans (hb.mono (by omega))⟩
theorem DE.set {w : World} {KA BA : Array Value} {g : Nat} {l : List UInt8} {a : World} (h : DE w KA BA g l a) (hg : w.heap.size + 5 ≤ g) (i : Nat) (x : UInt8) : DE w KA BA g (l.set i x) (a.setCell ⟨g, i, none⟩ (B8 x)) := by
  obtain ⟨h1, h2, ⟨Z, z1, z2⟩, h3, h4⟩ := h
  have hb := (Below.refl g a).setCell (p := ⟨g, i, none⟩) (Nat.le_refl _) (B8 x)
  refine ⟨(hb.block _ (by omega)).trans h1, (hb.block _ (by omega)).trans h2, ⟨Z, z1, (hb.block _ (by omega)).trans z2⟩, ?_, h4.setCell (p := ⟨g, i, none⟩) (by show w.heap.size ≤ g; omega) _⟩
  rw [← row_set]; exact heap_setCell_same _ g i _ 26 _ h3
theorem DE.drew {w : World} {KA BA : Array Value} {g : Nat} {l : List UInt8} {wr : World} (h : DE w KA BA g l wr) : DE w KA BA g l wr.drew := by
  unfold DE at *
  rw [heap_drew]
  exact ⟨h.1, h.2.1, h.2.2.1, h.2.2.2.1, h.2.2.2.2.drew⟩
theorem DE.start {w w1 : World} {KA SA TA ZA : Array Value} {l s : List UInt8} (h : DB w KA SA TA ZA l w1) (hz : ZA.size = 16) (o : Array Value) (hS : SA = (s.map B8).toArray) (BA : Array Value) (hB : BA = (l.map B8).toArray) :
    DE w KA BA w1.heap.size s ((w1.alloc (.cells o 26 (0, 0))).setRow w1.heap.size SA) := by
  obtain ⟨h1, h2, h3, h4, h5, h6, h7⟩ := h
  have hb' : Below w1.heap.size w1 ((w1.alloc (.cells o 26 (0, 0))).setRow w1.heap.size SA) := below_setRow ((Below.refl _ _).alloc (Nat.le_refl _) _) (Nat.le_refl _) _
  refine ⟨(hb'.block _ (by omega)).trans h1, by rw [hB]; exact (hb'.block _ (by omega)).trans h5, ⟨ZA, hz, (hb'.block _ (by omega)).trans h4⟩, ?_, h6.trans (hb'.mono (by omega))⟩
  rw [hS]; exact setRow_heap _ _ _ _ _ _ (heap_at _ _ _ rfl)
theorem unP_step (bk m s : List UInt8) (c r : Nat) (hr : r < 4) : unP bk m s (4 * c + r + 1) = (unP bk m s (4 * c + r)).set (4 * ((c + r) % 4) + r) (bk.getD (m.getD (4 * c + r) 0).toNat 0) := by
  show (unP bk m s (4 * c + r)).set (4 * (((4 * c + r) / 4 + (4 * c + r) % 4) % 4) + (4 * c + r) % 4) _ = _
  rw [show (4 * c + r) / 4 = c by omega, show (4 * c + r) % 4 = r by omega]
theorem decR_step (ks t s : List UInt8) (q : Nat) (h : 1 ≤ q) (h10 : q ≤ 10) : decR ks t s (10 - (q - 1)) = unP (bkA t) (dmA ks (decR ks t s (10 - q)) q) (decR ks t s (10 - q)) 16 := by
  rw [show 10 - (q - 1) = (10 - q) + 1 by omega]
  show unP (bkA t) (dmA ks (decR ks t s (10 - q)) (10 - (10 - q))) (decR ks t s (10 - q)) 16 = _
  rw [show 10 - (10 - q) = q by omega]
/-- A second block, b, with m in it, while l is set back. -/
def UT (w : World) (KA BA : Array Value) (g : Nat) (bk l : List UInt8) (b : Nat) (m : List UInt8) (k : Nat) (wr : World) : Prop :=
  DE w KA BA g (unP bk m l k) wr ∧ wr.heap[b]? = some (.cells (m.map B8).toArray 26 (0, 0))
theorem UT.set {w : World} {KA BA : Array Value} {g : Nat} {bk l m : List UInt8} {b c r : Nat} {wr : World} (h : UT w KA BA g bk l b m (4 * c + r) wr) (hg : w.heap.size + 5 ≤ g) (hgb : g < b) (hr : r < 4) :
    UT w KA BA g bk l b m (4 * c + r + 1) (wr.setCell ⟨g, 4 * ((c + r) % 4) + r, none⟩ (B8 (bk.getD (m.getD (4 * c + r) 0).toNat 0))) := by
  obtain ⟨h1, h2⟩ := h
  refine ⟨by rw [unP_step _ _ _ _ _ hr]; exact h1.set hg _ _, ?_⟩
  rw [heap_setCell_other _ _ _ _ (by show b ≠ g; omega)]; exact h2
/-- What stays while a round back begins. -/
def SD (w : World) (KA BA : Array Value) (g : Nat) (l : List UInt8) (LL KL : List Value) (o : Nat) (wr : World) : Prop :=
  wr.rangeAt g 0 LL ∧ wr.rangeAt w.heap.size o KL ∧ DE w KA BA g l wr ∧ g < wr.heap.size
theorem SD.below {w : World} {KA BA : Array Value} {g o B : Nat} {l : List UInt8} {LL KL : List Value} {x y : World} (h : SD w KA BA g l LL KL o x) (hg : w.heap.size + 5 ≤ g) (hb : Below B x y) (hB : g < B) : SD w KA BA g l LL KL o y := by
  obtain ⟨h1, h2, h3, h4⟩ := h
  have := hb.size
  refine ⟨fun j v hv => (hb.cell (by show g < B; omega)).trans (h1 j v hv), fun j v hv => (hb.cell (by show w.heap.size < B; omega)).trans (h2 j v hv), h3.below hb hB (by omega), by omega⟩



set_option maxHeartbeats 20000000 in
set_option maxRecDepth 100000 in
theorem decipher_any (ks s t : List UInt8) (w : World) (hk : ks.length = 176) (hs : s.length = 16) (ht : t.length = 256) :
    Calls Try.prog 24 #[.agg (ks.map B8).toArray, .agg (s.map B8).toArray, .agg (t.map B8).toArray] w fun e w' => e = .returned (.agg ((decA ks t s).map B8).toArray) ∧ Below w.heap.size w w' := by
  obtain ⟨KA, hKA⟩ : ∃ KA, KA = (ks.map B8).toArray := ⟨_, rfl⟩
  obtain ⟨SA, hSA⟩ : ∃ SA, SA = (s.map B8).toArray := ⟨_, rfl⟩
  obtain ⟨TA, hTA⟩ : ∃ TA, TA = (t.map B8).toArray := ⟨_, rfl⟩
  rw [← hKA, ← hSA, ← hTA]
  have HKA : Hid _ := hKA
  have HSA : Hid _ := hSA
  have HTA : Hid _ := hTA
  have hzv := fun W => zero16 W
  obtain ⟨ZA, hZA⟩ : ∃ ZA, ZA = ((List.replicate 16 (0 : UInt8)).map B8).toArray := ⟨_, rfl⟩
  rw [← hZA] at hzv
  have hyv := fun W => zero256 W
  obtain ⟨YA, hYA⟩ : ∃ YA, YA = ((List.replicate 256 (0 : UInt8)).map B8).toArray := ⟨_, rfl⟩
  rw [← hYA] at hyv
  have HZA : Hid _ := hZA
  have HYA : Hid _ := hYA
  clear hKA hSA hTA hZA hYA
  have HSL : Hid _ := hs
  have HTL : Hid _ := ht
  have HZS : Hid (ZA.size = 16) := by show _ = _; rw [HZA.out]; simp
  have HIS : Hid ((Try.prog.info? 26).map (·.size) = some SA.size) := by show _ = _; rw [HSA.out]; simp only [List.size_toArray, List.length_map, hs]; kernel_rfl
  have HSS : Hid (SA.size = 16) := by show _ = _; rw [HSA.out]; simp [hs]
  have HS1 : Hid (SA.all (·.oneCell') = true) := by show _ = _; rw [HSA.out]; exact B8_onea _
  have HK : Hid _ := hk
  clear hs ht hk
  go_enter Try.func24, Try.ntmps24
  go_wp2
  go_loopw [8] (fun i wr => ∃ k : Nat, k ≤ 256 ∧ i = .int .i64 k ∧ DB w KA SA TA ZA (bkR t k) wr) (fun i _ => 256 - (intOf i).toNat)
  case atStart => exact ⟨0, by omega, rfl, by repeat (first | exact heap_at _ _ _ (by simp) | rw [Below.heap_alloc _ _ _ (by first | (simp; done) | (simp; omega))]), by repeat (first | exact heap_at _ _ _ (by simp) | rw [Below.heap_alloc _ _ _ (by first | (simp; done) | (simp; omega))]), by repeat (first | exact heap_at _ _ _ (by simp) | rw [Below.heap_alloc _ _ _ (by first | (simp; done) | (simp; omega))]), by repeat (first | exact heap_at _ _ _ (by simp) | rw [Below.heap_alloc _ _ _ (by first | (simp; done) | (simp; omega))]), by rw [show bkR t 0 = List.replicate 256 0 from rfl, ← HYA.out]; exact heap_at _ _ _ (by simp), (((((Below.refl _ _).alloc (Nat.le_refl _) _).alloc (by simp) _).alloc (by simp; omega) _).alloc (by simp; omega) _).alloc (by simp; omega) _, by simp⟩
  case round =>
    obtain ⟨k, hk, rfl, hD⟩ := hrel
    by_cases hlt : k < 256
    · have hkI : (k : Int) < 256 := by omega
      have HS : Hid (DB w KA SA TA ZA (bkR t (k + 1)) (wr.setCell ⟨w.heap.size + 1 + 1 + 1 + 1, (t.getD k 0).toNat, none⟩ (.int .u8 (((UInt8.ofNat k).toNat : Nat) : Int)))) := DB.set hD (t.getD k 0).toNat (UInt8.ofNat k)
      have hck : (UInt8.ofNat k).toNat = k := by show _ % 256 = _; omega
      rw [hck] at HS
      obtain ⟨h1, h2, h3, h4, h5, h6, h7⟩ := hD
      have g1 := cell_of_row _ _ k _ _ _ h3
      rw [HTA.out, row_get t 256 HTL.out _ hlt] at g1
      have g2 := cell_of_row _ _ (t.getD k 0).toNat _ _ _ h5
      have hxl := (t.getD k 0).toNat_lt
      rw [row_get (bkR t k) 256 (bkR_len t k) _ (by omega)] at g2
      have g3 := frozen_of_row _ _ (t.getD k 0).toNat _ _ h5
      generalize t.getD k 0 = x at *
      generalize (bkR t k).getD x.toNat 0 = y at *
      have l3 : (x.toNat : Int) < 256 := by omega
      have c1 : IntKind.u8.wrap (k : Int) = (k : Int) := by rw [IntKind.wrap_u8]; omega
      clear h1 h2 h3 h4 h5 h6 h7 hck
      go_wp2
      go_roundw
      case rel => exact ⟨k + 1, by omega, by go_num, HS.out⟩
      case measure => simp [intOf]; omega
    · have hk' : k = 256 := by omega
      have hkI : ¬ (k : Int) < 256 := by omega
      rw [hk'] at hD
      obtain ⟨w1, hw1⟩ : ∃ w1, w1 = wr := ⟨_, rfl⟩
      subst hw1
      obtain ⟨BA, hBA⟩ : ∃ BA, BA = ((bkA t).map B8).toArray := ⟨_, rfl⟩
      have HDE : Hid (DE w KA BA w1.heap.size s ((w1.alloc (.cells ZA 26 (0, 0))).setRow w1.heap.size SA)) := DE.start hD HZS.out ZA HSA.out BA hBA
      have HS0 : Hid _ := hD.2.1
      have hs1 : w.heap.size + 5 ≤ w1.heap.size := by have := hD.2.2.2.2.2.2; omega
      have HBA : Hid _ := hBA
      clear hD hk' hBA
      go_wp2_with (first
        | (refine wpList_load_row rfl 26 _ rfl (w.heap.size + 1) rfl 26 SA (0, 0) _ HS0.out Try.underlying26 rfl HIS.out ?_)
        | (refine wpList_store_row rfl 26 _ _ rfl w1.heap.size SA rfl rfl 26 _ (heap_at _ _ _ rfl) HIS.out (by rw [HSS.out]; exact HZS.out) HS1.out ?_))
      go_loopw [10] (fun i wr => ∃ q : Nat, q ≤ 10 ∧ i = .int .i64 q ∧ DE w KA BA w1.heap.size (decR ks t s (10 - q)) wr ∧ w1.heap.size + 1 ≤ wr.heap.size) (fun i _ => (intOf i).toNat)
      case atStart => exact ⟨10, by omega, rfl, HDE.out, by simp⟩
      case round =>
        clear HDE
        obtain ⟨q, hq, rfl, hDE, hsz⟩ := hrel
        have hLL : (decR ks t s (10 - q)).length = 16 := decR_len _ _ _ _ HSL.out
        by_cases hq1 : 1 ≤ q
        · have hqI : (1 : Int) ≤ (q : Int) := by omega
          have HDEC : Hid _ := decR_step ks t s q hq1 hq
          obtain ⟨l, hl⟩ : ∃ l, l = decR ks t s (10 - q) := ⟨_, rfl⟩
          rw [← hl] at hDE hLL HDEC
          have HLL : Hid _ := hLL
          obtain ⟨LL, hLLe⟩ : ∃ LL, LL = l.map B8 := ⟨_, rfl⟩
          obtain ⟨KL, hKL⟩ : ∃ KL, KL = (keyA ks q).map B8 := ⟨_, rfl⟩
          have hKl := keyA_len ks q HK.out (by omega)
          obtain ⟨X, hX⟩ : ∃ X, X = xrA l (keyA ks q) := ⟨_, rfl⟩
          have hXl : X.length = 16 := by rw [hX]; exact xrA_len _ _ 16 hLL hKl
          obtain ⟨XA, hXA⟩ : ∃ XA, XA = (X.map B8).toArray := ⟨_, rfl⟩
          have hx := fun W => xor_any l (keyA ks q) W hLL hKl
          rw [← hX, ← hXA, ← hLLe, ← hKL] at hx
          have hiM : (Try.prog.info? 26).map (·.size) = some LL.length := by rw [hLLe, List.length_map, hLL]; kernel_rfl
          have hiK : (Try.prog.info? 26).map (·.size) = some KL.length := by rw [hKL, List.length_map, hKl]; kernel_rfl
          have hX8 : XA.size = 16 := by rw [hXA]; simp [hXl]
          have hiN : (Try.prog.info? 26).map (·.size) = some XA.size := by rw [hX8]; kernel_rfl
          have hX1 : XA.all (·.oneCell') = true := by rw [hXA]; exact B8_onea _
          have hu := Try.underlying26
          have HSD : Hid (SD w KA BA w1.heap.size l LL KL (q * 16) wr.drew) := by
            refine ⟨?_, ?_, hDE.drew, by rw [heap_drew]; omega⟩
            · rw [hLLe]; exact rangeAt_row (by rw [heap_drew]; exact hDE.2.2.2.1)
            · rw [hKL, Nat.mul_comm]; exact keyA_range q (by rw [heap_drew, ← HKA.out]; exact hDE.1)
          have HIN : Hid _ := hiN
          have HX1 : Hid _ := hX1
          have HX8 : Hid _ := hX8
          have HXA : Hid _ := hXA
          have HXE : Hid _ := hX
          clear hDE hl hLL hLLe hKL hKl hX hXA hiN hX1 hX8
          go_wp2
          refine wp_region_held_drew (S := SD w KA BA w1.heap.size l LL KL (q * 16)) (by kernel_rfl) HSD.out (fun hHeld => ?_)
          refine wpAnyH_take (i := 0) (oi := { dst := some 29, op := Go.Op.load 26 (Go.Operand.tmp 9), type := 26, pos := _, after := #[], guard := none }) rfl (by kernel_rfl) (by kernel_rfl) (by kernel_rfl) (fun _ _ _ h => h) (yieldsIf_load_mid (by rfl) 26 (.tmp 9) rfl (w1.heap.size) (0) rfl (LL) _ (fun _ h => h.1) hu rfl hiM) hHeld ?_
          try simp only [Act.put, List.setIfInBounds_toArray, List.set_cons_zero, List.set_cons_succ]
          refine wpAnyH_take (i := 1) (oi := { dst := some 30, op := Go.Op.move (Go.Operand.tmp 10), type := 3, pos := _, after := #[], guard := none }) (v := .int .i64 (q : Int)) rfl (by kernel_rfl) (by kernel_rfl) (by kernel_rfl) (fun _ _ _ h => h) (Or.inl ⟨by rfl, fun w' hw' => ?_⟩) hHeld ?_
          · first | (go_simp; done) | (go_simp; rfl)
          try simp only [Act.put, List.setIfInBounds_toArray, List.set_cons_zero, List.set_cons_succ]
          refine wpAnyH_take (i := 2) (oi := { dst := some 31, op := Go.Op.indexAddr 29 (Go.Operand.tmp 3) (Go.Operand.tmp 30), type := 0, pos := _, after := #[{ on := 1, ground := Go.Ground.data }], guard := none }) (v := .pointer (some ⟨w.heap.size, q * 16, none⟩)) rfl (by kernel_rfl) (by kernel_rfl) (by kernel_rfl) (fun _ _ _ h => h) (Or.inl ⟨by rfl, fun w' hw' => ?_⟩) hHeld ?_
          · (go_simp; intro hbad; omega)
          try simp only [Act.put, List.setIfInBounds_toArray, List.set_cons_zero, List.set_cons_succ]
          refine wpAnyH_take (i := 3) (oi := { dst := some 32, op := Go.Op.load 26 (Go.Operand.tmp 31), type := 26, pos := _, after := #[{ on := 2, ground := Go.Ground.data }], guard := none }) rfl (by kernel_rfl) (by kernel_rfl) (by kernel_rfl) (fun _ _ _ h => h) (yieldsIf_load_mid (by rfl) 26 (.tmp 31) rfl (w.heap.size) (q * 16) rfl (KL) _ (fun _ h => h.2.1) hu rfl hiK) hHeld ?_
          try simp only [Act.put, List.setIfInBounds_toArray, List.set_cons_zero, List.set_cons_succ]
          refine wpAnyH_ready (rs := [4, 5]) (by kernel_rfl) (by simp) ?_
          refine AllReadyH.cons (o := { dst := some 33, op := Go.Op.call { callee := Go.Callee.value (Go.Operand.func 37), args := #[Go.Operand.tmp 29, Go.Operand.tmp 32], argTypes := #[26, 26] }, type := 26, pos := _, after := #[{ on := 0, ground := Go.Ground.data }, { on := 3, ground := Go.Ground.data }], guard := none }) rfl (fun K hK => ?_) (AllReadyH.cons (o := { dst := some 11, op := Go.Op.alloc 26, type := 0, pos := _, after := #[], guard := none }) rfl (fun K hK => ?_) AllReadyH.nil)
          all_goals rw [if_pos (by rfl)]
          · go_wp2_with fail
            refine (hx _).mono ?_
            rintro e w4 ⟨rfl, hb4⟩
            have hHeld4 := SD.below hHeld hs1 hb4 hHeld.2.2.2
            have hsz4 : w1.heap.size + 1 ≤ w4.heap.size := hHeld4.2.2.2
            clear hb4
            refine hK.out _ _ hHeld4 (fun _ => ?_)
            clear hK K
            try simp only [Act.put, List.setIfInBounds_toArray, List.set_cons_zero, List.set_cons_succ]
            refine wpAnyH_ready (rs := [5]) (by kernel_rfl) (by simp) ?_
            refine AllReadyH.cons (o := { dst := some 11, op := Go.Op.alloc 26, type := 0, pos := _, after := #[], guard := none }) rfl (fun K hK => ?_) AllReadyH.nil
            rw [if_pos (by rfl)]
            go_wp2_with fail
            have hHeld5 := SD.below hHeld4 hs1 ((Below.refl w4.heap.size w4).alloc (Nat.le_refl _) (.cells ZA 26 (0, 0))) (by omega)
            refine hK.out _ _ hHeld5 (fun _ => ?_)
            clear hK K
            try simp only [Act.put, List.setIfInBounds_toArray, List.set_cons_zero, List.set_cons_succ]
            refine wpAnyH_ready (rs := [6]) (by kernel_rfl) (by simp) ?_
            refine AllReadyH.cons (o := { dst := none, op := Go.Op.store 26 (Go.Operand.tmp 11) (Go.Operand.tmp 33), type := 0, pos := _, after := #[{ on := 5, ground := Go.Ground.data }, { on := 4, ground := Go.Ground.data }, { on := 4, ground := Go.Ground.chain }, { on := 0, ground := Go.Ground.phase }, { on := 1, ground := Go.Ground.phase }, { on := 2, ground := Go.Ground.phase }, { on := 3, ground := Go.Ground.phase }, { on := 4, ground := Go.Ground.phase }, { on := 5, ground := Go.Ground.phase }], guard := none }) rfl (fun K hK => ?_) AllReadyH.nil
            rw [if_pos (by rfl)]
            refine wp_store_row 26 _ _ rfl w4.heap.size XA rfl rfl 26 _ (heap_at _ _ _ rfl) HIN.out (by rw [HX8.out]; exact HZS.out) HX1.out ?_
            have hHeld6 := SD.below hHeld5 hs1 (below_setRow (Below.refl w4.heap.size _) (Nat.le_refl _) XA) (by omega)
            refine hK.out _ _ hHeld6 (fun _ => ?_)
            clear hK K
            try simp only [Act.put, List.setIfInBounds_toArray, List.set_cons_zero, List.set_cons_succ]
            refine wpAnyH_done (by kernel_rfl) ?_ _
            have HFF : Hid (DE w KA BA w1.heap.size l ((w4.alloc (.cells ZA 26 (0, 0))).setRow w4.heap.size XA) ∧ ((w4.alloc (.cells ZA 26 (0, 0))).setRow w4.heap.size XA).heap[w4.heap.size]? = some (.cells XA 26 (0, 0))) := ⟨hHeld6.2.2.1, setRow_heap _ _ _ _ _ _ (heap_at _ _ _ rfl)⟩
            have hszW : w1.heap.size + 1 ≤ ((w4.alloc (.cells ZA 26 (0, 0))).setRow w4.heap.size XA).heap.size := hHeld6.2.2.2
            have hbW : w4.heap.size < ((w4.alloc (.cells ZA 26 (0, 0))).setRow w4.heap.size XA).heap.size := by simp
            clear hHeld hHeld4 hHeld5 hHeld6
            generalize ((w4.alloc (.cells ZA 26 (0, 0))).setRow w4.heap.size XA) = W at *
            generalize w4.heap.size = b at *
            clear hx hiM hiK HSD HIN HX1 HSS HS1 HIS HS0
            by_cases hq9 : q < 10
            · have hqJ : (q : Int) < 10 := by omega
              obtain ⟨M, hM⟩ : ∃ M, M = mxA X [14, 11, 13, 9] := ⟨_, rfl⟩
              have hMl : M.length = 16 := by rw [hM]; exact mxA_len _ _
              have hmx : ∀ W, Calls Try.prog 38 #[.agg (X.map B8).toArray, .agg #[.int .u8 14, .int .u8 11, .int .u8 13, .int .u8 9]] W fun e w' => e = .returned (.agg (M.map B8).toArray) ∧ Below W.heap.size W w' := fun W => by rw [hM]; exact mixed_any X [14, 11, 13, 9] W hXl rfl
              have HDM : Hid (dmA ks l q = M) := by show _ = _; unfold dmA; rw [if_pos hq9, ← HXE.out, ← hM]
              obtain ⟨MA, hMA⟩ : ∃ MA, MA = (M.map B8).toArray := ⟨_, rfl⟩
              have hM8 : MA.size = 16 := by rw [hMA]; simp [hMl]
              have HIMA : Hid ((Try.prog.info? 26).map (·.size) = some MA.size) := by show _ = _; rw [hM8]; kernel_rfl
              have HIXA : Hid ((Try.prog.info? 26).map (·.size) = some XA.size) := by show _ = _; rw [HX8.out]; kernel_rfl
              have HMA1 : Hid (MA.all (·.oneCell') = true) := by show _ = _; rw [hMA]; exact B8_onea _
              have HSZ : Hid (XA.size = MA.size) := HX8.out.trans hM8.symm
              rw [← hMA, ← HXA.out] at hmx
              have HMAE : Hid _ := hMA
              clear hMA hM hM8
              go_wp2_with (first
                | (refine wpList_load_row rfl 26 _ rfl b rfl 26 XA (0, 0) _ HFF.out.2 Try.underlying26 rfl HIXA.out ?_))
              refine (hmx _).mono ?_
              rintro e w3 ⟨rfl, hb3⟩
              have hrow := (hb3.block b hbW).trans HFF.out.2
              have hDE3 : DE w KA BA w1.heap.size l w3 := HFF.out.1.below hb3 (by omega) (by omega)
              have HUT : Hid (UT w KA BA w1.heap.size (bkA t) l b M 0 (w3.setRow b MA)) := ⟨hDE3.below (below_setRow (Below.refl b w3) (Nat.le_refl _) MA) (by omega) (by omega), by rw [← HMAE.out]; exact setRow_heap _ _ _ _ _ _ hrow⟩
              have hsz3 : w1.heap.size + 1 ≤ w3.heap.size := by have := hb3.size; omega
              have HROW : Hid _ := hrow
              clear hb3 hrow hDE3 hmx
              go_wp2_with (first
                | (refine wpList_store_row rfl 26 _ _ rfl b MA rfl rfl 26 _ HROW.out HIMA.out HSZ.out HMA1.out ?_))
              go_wp2
              go_loopw [12] (fun i wr => ∃ c : Nat, c ≤ 4 ∧ i = .int .i64 c ∧ UT w KA BA w1.heap.size (bkA t) l b M (4 * c) wr ∧ w1.heap.size + 1 ≤ wr.heap.size) (fun i _ => 4 - (intOf i).toNat)
              case atStart => exact ⟨0, by omega, rfl, HUT.out, by simpa using hsz3⟩
              case round =>
                obtain ⟨c, hc, rfl, hM, hszc⟩ := hrel
                by_cases hlc : c < 4
                · have hcI : (c : Int) < 4 := by omega
                  have HM0 : Hid (UT w KA BA w1.heap.size (bkA t) l b M (4 * c) wr ∧ w1.heap.size + 1 ≤ wr.heap.size) := ⟨hM, hszc⟩
                  clear hM hszc
                  go_wp2
                  go_loopw [13] (fun i wr => ∃ r : Nat, r ≤ 4 ∧ i = .int .i64 r ∧ UT w KA BA w1.heap.size (bkA t) l b M (4 * c + r) wr ∧ w1.heap.size + 1 ≤ wr.heap.size) (fun i _ => 4 - (intOf i).toNat)
                  case atStart => exact ⟨0, by omega, rfl, HM0.out.1, HM0.out.2⟩
                  case round =>
                    clear HM0
                    obtain ⟨r, hr, rfl, hM, hszc⟩ := hrel
                    by_cases hlr : r < 4
                    · have hrI : (r : Int) < 4 := by omega
                      have HS : Hid (UT w KA BA w1.heap.size (bkA t) l b M (4 * c + r + 1) (wr.setCell ⟨w1.heap.size, 4 * ((c + r) % 4) + r, none⟩ (.int .u8 (((((bkA t).getD (List.getD M (4 * c + r) 0).toNat 0).toNat : Nat)) : Int)))) := UT.set hM hs1 (by omega) hlr
                      obtain ⟨⟨h1, h2, h3, h4, h5⟩, h6⟩ := hM
                      have hm4 : (c + r) % 4 < 4 := by omega
                      have g1 := cell_of_row _ _ (4 * c + r) _ _ _ h6
                      rw [row_get M 16 hMl _ (by omega)] at g1
                      have g2 := cell_of_row _ _ (List.getD M (4 * c + r) 0).toNat _ _ _ h2
                      have hxl := (List.getD M (4 * c + r) 0).toNat_lt
                      rw [HBA.out, row_get (bkA t) 256 (bkR_len t 256) _ (by omega)] at g2
                      have g4 := cell_of_row _ _ (4 * ((c + r) % 4) + r) _ _ _ h4
                      rw [row_get _ 16 (unP_len _ _ _ _ 16 HLL.out) _ (by omega)] at g4
                      have g5 := frozen_of_row _ _ (4 * ((c + r) % 4) + r) _ _ h4
                      have q0 : IntKind.i64.wrap (4 * (c : Int)) = 4 * (c : Int) := wrap_i64_7 _ (by omega) (by omega)
                      have q1 : IntKind.i64.wrap (4 * (c : Int) + r) = 4 * (c : Int) + r := wrap_i64_7 _ (by omega) (by omega)
                      have q2 : IntKind.i64.wrap ((c : Int) + r) = (c : Int) + r := wrap_i64_7 _ (by omega) (by omega)
                      have q5 : Int.tmod ((c : Int) + r) 4 = (((c + r) % 4 : Nat) : Int) := by
                        rw [Int.tmod_eq_emod_of_nonneg (by omega)]; omega
                      generalize (c + r) % 4 = m at *
                      have q3 : IntKind.i64.wrap (4 * (m : Int)) = 4 * (m : Int) := wrap_i64_7 _ (by omega) (by omega)
                      have q4 : IntKind.i64.wrap (4 * (m : Int) + r) = 4 * (m : Int) + r := wrap_i64_7 _ (by omega) (by omega)
                      have t1 : (4 * (c : Int) + r).toNat = 4 * c + r := by omega
                      have t2 : (4 * (m : Int) + r).toNat = 4 * m + r := by omega
                      have l1 : (0 : Int) ≤ 4 * (c : Int) + r ∧ 4 * (c : Int) + r < 16 := by omega
                      have l2 : (0 : Int) ≤ 4 * (m : Int) + r ∧ 4 * (m : Int) + r < 16 := by omega
                      generalize List.getD M (4 * c + r) 0 = x at *
                      have l3 : (x.toNat : Int) < 256 := by omega
                      generalize (bkA t).getD x.toNat 0 = y at *
                      generalize (unP (bkA t) M l (4 * c + r)).getD (4 * m + r) 0 = z at *
                      clear h1 h2 h3 h4 h5 h6
                      go_wp2
                      go_roundw
                      case rel => exact ⟨r + 1, by omega, by go_num, HS.out, by simpa using hszc⟩
                      case measure => simp [intOf]; omega
                    · have hr4 : r = 4 := by omega
                      have hrI : ¬ (r : Int) < 4 := by omega
                      have HM1 : Hid (UT w KA BA w1.heap.size (bkA t) l b M (4 * (c + 1)) wr) := by
                        show UT _ _ _ _ _ _ _ _ _ _
                        rw [hr4] at hM
                        exact hM
                      clear hM hr4
                      go_wp2
                      go_roundw
                      case rel => exact ⟨c + 1, by omega, by go_num, HM1.out, hszc⟩
                      case measure => simp [intOf]; omega
                · have hc4 : c = 4 := by omega
                  have hcI : ¬ (c : Int) < 4 := by omega
                  have HM1 : Hid (DE w KA BA w1.heap.size (decR ks t s (10 - (q - 1))) wr) := by
                    show DE _ _ _ _ _ _
                    rw [hc4] at hM
                    rw [HDEC.out, HDM.out]
                    exact hM.1
                  clear hM hc4
                  have qd : IntKind.i64.wrap ((q : Int) - 1) = ((q - 1 : Nat) : Int) := by rw [wrap_i64_7 _ (by omega) (by omega)]; omega
                  go_wp2
                  go_roundw
                  case rel => exact ⟨q - 1, by omega, by first | go_num | (congr 1; omega), HM1.out, hszc⟩
                  case measure => simp [intOf]; omega
            · have hqJ : ¬ (q : Int) < 10 := by omega
              have HDM : Hid (dmA ks l q = X) := by show _ = _; unfold dmA; rw [if_neg hq9, ← HXE.out]
              have HUT : Hid (UT w KA BA w1.heap.size (bkA t) l b X 0 W) := ⟨HFF.out.1, by rw [← HXA.out]; exact HFF.out.2⟩
              go_wp2
              go_loopw [12] (fun i wr => ∃ c : Nat, c ≤ 4 ∧ i = .int .i64 c ∧ UT w KA BA w1.heap.size (bkA t) l b X (4 * c) wr ∧ w1.heap.size + 1 ≤ wr.heap.size) (fun i _ => 4 - (intOf i).toNat)
              case atStart => exact ⟨0, by omega, rfl, HUT.out, by simpa using hszW⟩
              case round =>
                obtain ⟨c, hc, rfl, hM, hszc⟩ := hrel
                by_cases hlc : c < 4
                · have hcI : (c : Int) < 4 := by omega
                  have HM0 : Hid (UT w KA BA w1.heap.size (bkA t) l b X (4 * c) wr ∧ w1.heap.size + 1 ≤ wr.heap.size) := ⟨hM, hszc⟩
                  clear hM hszc
                  go_wp2
                  go_loopw [13] (fun i wr => ∃ r : Nat, r ≤ 4 ∧ i = .int .i64 r ∧ UT w KA BA w1.heap.size (bkA t) l b X (4 * c + r) wr ∧ w1.heap.size + 1 ≤ wr.heap.size) (fun i _ => 4 - (intOf i).toNat)
                  case atStart => exact ⟨0, by omega, rfl, HM0.out.1, HM0.out.2⟩
                  case round =>
                    clear HM0
                    obtain ⟨r, hr, rfl, hM, hszc⟩ := hrel
                    by_cases hlr : r < 4
                    · have hrI : (r : Int) < 4 := by omega
                      have HS : Hid (UT w KA BA w1.heap.size (bkA t) l b X (4 * c + r + 1) (wr.setCell ⟨w1.heap.size, 4 * ((c + r) % 4) + r, none⟩ (.int .u8 (((((bkA t).getD (List.getD X (4 * c + r) 0).toNat 0).toNat : Nat)) : Int)))) := UT.set hM hs1 (by omega) hlr
                      obtain ⟨⟨h1, h2, h3, h4, h5⟩, h6⟩ := hM
                      have hm4 : (c + r) % 4 < 4 := by omega
                      have g1 := cell_of_row _ _ (4 * c + r) _ _ _ h6
                      rw [row_get X 16 hXl _ (by omega)] at g1
                      have g2 := cell_of_row _ _ (List.getD X (4 * c + r) 0).toNat _ _ _ h2
                      have hxl := (List.getD X (4 * c + r) 0).toNat_lt
                      rw [HBA.out, row_get (bkA t) 256 (bkR_len t 256) _ (by omega)] at g2
                      have g4 := cell_of_row _ _ (4 * ((c + r) % 4) + r) _ _ _ h4
                      rw [row_get _ 16 (unP_len _ _ _ _ 16 HLL.out) _ (by omega)] at g4
                      have g5 := frozen_of_row _ _ (4 * ((c + r) % 4) + r) _ _ h4
                      have q0 : IntKind.i64.wrap (4 * (c : Int)) = 4 * (c : Int) := wrap_i64_7 _ (by omega) (by omega)
                      have q1 : IntKind.i64.wrap (4 * (c : Int) + r) = 4 * (c : Int) + r := wrap_i64_7 _ (by omega) (by omega)
                      have q2 : IntKind.i64.wrap ((c : Int) + r) = (c : Int) + r := wrap_i64_7 _ (by omega) (by omega)
                      have q5 : Int.tmod ((c : Int) + r) 4 = (((c + r) % 4 : Nat) : Int) := by
                        rw [Int.tmod_eq_emod_of_nonneg (by omega)]; omega
                      generalize (c + r) % 4 = m at *
                      have q3 : IntKind.i64.wrap (4 * (m : Int)) = 4 * (m : Int) := wrap_i64_7 _ (by omega) (by omega)
                      have q4 : IntKind.i64.wrap (4 * (m : Int) + r) = 4 * (m : Int) + r := wrap_i64_7 _ (by omega) (by omega)
                      have t1 : (4 * (c : Int) + r).toNat = 4 * c + r := by omega
                      have t2 : (4 * (m : Int) + r).toNat = 4 * m + r := by omega
                      have l1 : (0 : Int) ≤ 4 * (c : Int) + r ∧ 4 * (c : Int) + r < 16 := by omega
                      have l2 : (0 : Int) ≤ 4 * (m : Int) + r ∧ 4 * (m : Int) + r < 16 := by omega
                      generalize List.getD X (4 * c + r) 0 = x at *
                      have l3 : (x.toNat : Int) < 256 := by omega
                      generalize (bkA t).getD x.toNat 0 = y at *
                      generalize (unP (bkA t) X l (4 * c + r)).getD (4 * m + r) 0 = z at *
                      clear h1 h2 h3 h4 h5 h6
                      go_wp2
                      go_roundw
                      case rel => exact ⟨r + 1, by omega, by go_num, HS.out, by simpa using hszc⟩
                      case measure => simp [intOf]; omega
                    · have hr4 : r = 4 := by omega
                      have hrI : ¬ (r : Int) < 4 := by omega
                      have HM1 : Hid (UT w KA BA w1.heap.size (bkA t) l b X (4 * (c + 1)) wr) := by
                        show UT _ _ _ _ _ _ _ _ _ _
                        rw [hr4] at hM
                        exact hM
                      clear hM hr4
                      go_wp2
                      go_roundw
                      case rel => exact ⟨c + 1, by omega, by go_num, HM1.out, hszc⟩
                      case measure => simp [intOf]; omega
                · have hc4 : c = 4 := by omega
                  have hcI : ¬ (c : Int) < 4 := by omega
                  have HM1 : Hid (DE w KA BA w1.heap.size (decR ks t s (10 - (q - 1))) wr) := by
                    show DE _ _ _ _ _ _
                    rw [hc4] at hM
                    rw [HDEC.out, HDM.out]
                    exact hM.1
                  clear hM hc4
                  have qd : IntKind.i64.wrap ((q : Int) - 1) = ((q - 1 : Nat) : Int) := by rw [wrap_i64_7 _ (by omega) (by omega)]; omega
                  go_wp2
                  go_roundw
                  case rel => exact ⟨q - 1, by omega, by first | go_num | (congr 1; omega), HM1.out, hszc⟩
                  case measure => simp [intOf]; omega
          · go_wp2_with fail
            have hszr : w1.heap.size + 1 ≤ wr.drew.heap.size := hHeld.2.2.2
            have hHeld5 := SD.below hHeld hs1 ((Below.refl wr.drew.heap.size wr.drew).alloc (Nat.le_refl _) (.cells ZA 26 (0, 0))) (by omega)
            refine hK.out _ _ hHeld5 (fun _ => ?_)
            clear hK K
            try simp only [Act.put, List.setIfInBounds_toArray, List.set_cons_zero, List.set_cons_succ]
            refine wpAnyH_ready (rs := [4]) (by kernel_rfl) (by simp) ?_
            refine AllReadyH.cons (o := { dst := some 33, op := Go.Op.call { callee := Go.Callee.value (Go.Operand.func 37), args := #[Go.Operand.tmp 29, Go.Operand.tmp 32], argTypes := #[26, 26] }, type := 26, pos := _, after := #[{ on := 0, ground := Go.Ground.data }, { on := 3, ground := Go.Ground.data }], guard := none }) rfl (fun K hK => ?_) AllReadyH.nil
            rw [if_pos (by rfl)]
            go_wp2_with fail
            refine (hx _).mono ?_
            rintro e w4 ⟨rfl, hb4⟩
            have hHeld4 := SD.below hHeld5 hs1 hb4 hHeld5.2.2.2
            have hrw : w4.heap[wr.heap.size]? = some (.cells ZA 26 (0, 0)) := (hb4.block _ (by simp)).trans (heap_at _ _ _ (by simp))
            have hbW : wr.heap.size < (w4.setRow wr.heap.size XA).heap.size := by have := hb4.size; simp at this; simp; omega
            clear hb4
            refine hK.out _ _ hHeld4 (fun _ => ?_)
            clear hK K
            try simp only [Act.put, List.setIfInBounds_toArray, List.set_cons_zero, List.set_cons_succ]
            refine wpAnyH_ready (rs := [6]) (by kernel_rfl) (by simp) ?_
            refine AllReadyH.cons (o := { dst := none, op := Go.Op.store 26 (Go.Operand.tmp 11) (Go.Operand.tmp 33), type := 0, pos := _, after := #[{ on := 5, ground := Go.Ground.data }, { on := 4, ground := Go.Ground.data }, { on := 4, ground := Go.Ground.chain }, { on := 0, ground := Go.Ground.phase }, { on := 1, ground := Go.Ground.phase }, { on := 2, ground := Go.Ground.phase }, { on := 3, ground := Go.Ground.phase }, { on := 4, ground := Go.Ground.phase }, { on := 5, ground := Go.Ground.phase }], guard := none }) rfl (fun K hK => ?_) AllReadyH.nil
            rw [if_pos (by rfl)]
            refine wp_store_row 26 _ _ rfl wr.heap.size XA rfl rfl 26 _ hrw HIN.out (by rw [HX8.out]; exact HZS.out) HX1.out ?_
            have hHeld6 := SD.below hHeld4 hs1 (below_setRow (Below.refl wr.heap.size _) (Nat.le_refl _) XA) (by omega)
            refine hK.out _ _ hHeld6 (fun _ => ?_)
            clear hK K
            try simp only [Act.put, List.setIfInBounds_toArray, List.set_cons_zero, List.set_cons_succ]
            refine wpAnyH_done (by kernel_rfl) ?_ _
            have HFF : Hid (DE w KA BA w1.heap.size l (w4.setRow wr.heap.size XA) ∧ (w4.setRow wr.heap.size XA).heap[wr.heap.size]? = some (.cells XA 26 (0, 0))) := ⟨hHeld6.2.2.1, setRow_heap _ _ _ _ _ _ hrw⟩
            have hszW : w1.heap.size + 1 ≤ (w4.setRow wr.heap.size XA).heap.size := hHeld6.2.2.2
            clear hHeld hHeld4 hHeld5 hHeld6 hrw hszr
            generalize w4.setRow wr.heap.size XA = W at *
            generalize wr.heap.size = b at *
            have hsz4 : w1.heap.size + 1 ≤ b := hsz
            clear hx hiM hiK HSD HIN HX1 HSS HS1 HIS HS0
            by_cases hq9 : q < 10
            · have hqJ : (q : Int) < 10 := by omega
              obtain ⟨M, hM⟩ : ∃ M, M = mxA X [14, 11, 13, 9] := ⟨_, rfl⟩
              have hMl : M.length = 16 := by rw [hM]; exact mxA_len _ _
              have hmx : ∀ W, Calls Try.prog 38 #[.agg (X.map B8).toArray, .agg #[.int .u8 14, .int .u8 11, .int .u8 13, .int .u8 9]] W fun e w' => e = .returned (.agg (M.map B8).toArray) ∧ Below W.heap.size W w' := fun W => by rw [hM]; exact mixed_any X [14, 11, 13, 9] W hXl rfl
              have HDM : Hid (dmA ks l q = M) := by show _ = _; unfold dmA; rw [if_pos hq9, ← HXE.out, ← hM]
              obtain ⟨MA, hMA⟩ : ∃ MA, MA = (M.map B8).toArray := ⟨_, rfl⟩
              have hM8 : MA.size = 16 := by rw [hMA]; simp [hMl]
              have HIMA : Hid ((Try.prog.info? 26).map (·.size) = some MA.size) := by show _ = _; rw [hM8]; kernel_rfl
              have HIXA : Hid ((Try.prog.info? 26).map (·.size) = some XA.size) := by show _ = _; rw [HX8.out]; kernel_rfl
              have HMA1 : Hid (MA.all (·.oneCell') = true) := by show _ = _; rw [hMA]; exact B8_onea _
              have HSZ : Hid (XA.size = MA.size) := HX8.out.trans hM8.symm
              rw [← hMA, ← HXA.out] at hmx
              have HMAE : Hid _ := hMA
              clear hMA hM hM8
              go_wp2_with (first
                | (refine wpList_load_row rfl 26 _ rfl b rfl 26 XA (0, 0) _ HFF.out.2 Try.underlying26 rfl HIXA.out ?_))
              refine (hmx _).mono ?_
              rintro e w3 ⟨rfl, hb3⟩
              have hrow := (hb3.block b hbW).trans HFF.out.2
              have hDE3 : DE w KA BA w1.heap.size l w3 := HFF.out.1.below hb3 (by omega) (by omega)
              have HUT : Hid (UT w KA BA w1.heap.size (bkA t) l b M 0 (w3.setRow b MA)) := ⟨hDE3.below (below_setRow (Below.refl b w3) (Nat.le_refl _) MA) (by omega) (by omega), by rw [← HMAE.out]; exact setRow_heap _ _ _ _ _ _ hrow⟩
              have hsz3 : w1.heap.size + 1 ≤ w3.heap.size := by have := hb3.size; omega
              have HROW : Hid _ := hrow
              clear hb3 hrow hDE3 hmx
              go_wp2_with (first
                | (refine wpList_store_row rfl 26 _ _ rfl b MA rfl rfl 26 _ HROW.out HIMA.out HSZ.out HMA1.out ?_))
              go_wp2
              go_loopw [12] (fun i wr => ∃ c : Nat, c ≤ 4 ∧ i = .int .i64 c ∧ UT w KA BA w1.heap.size (bkA t) l b M (4 * c) wr ∧ w1.heap.size + 1 ≤ wr.heap.size) (fun i _ => 4 - (intOf i).toNat)
              case atStart => exact ⟨0, by omega, rfl, HUT.out, by simpa using hsz3⟩
              case round =>
                obtain ⟨c, hc, rfl, hM, hszc⟩ := hrel
                by_cases hlc : c < 4
                · have hcI : (c : Int) < 4 := by omega
                  have HM0 : Hid (UT w KA BA w1.heap.size (bkA t) l b M (4 * c) wr ∧ w1.heap.size + 1 ≤ wr.heap.size) := ⟨hM, hszc⟩
                  clear hM hszc
                  go_wp2
                  go_loopw [13] (fun i wr => ∃ r : Nat, r ≤ 4 ∧ i = .int .i64 r ∧ UT w KA BA w1.heap.size (bkA t) l b M (4 * c + r) wr ∧ w1.heap.size + 1 ≤ wr.heap.size) (fun i _ => 4 - (intOf i).toNat)
                  case atStart => exact ⟨0, by omega, rfl, HM0.out.1, HM0.out.2⟩
                  case round =>
                    clear HM0
                    obtain ⟨r, hr, rfl, hM, hszc⟩ := hrel
                    by_cases hlr : r < 4
                    · have hrI : (r : Int) < 4 := by omega
                      have HS : Hid (UT w KA BA w1.heap.size (bkA t) l b M (4 * c + r + 1) (wr.setCell ⟨w1.heap.size, 4 * ((c + r) % 4) + r, none⟩ (.int .u8 (((((bkA t).getD (List.getD M (4 * c + r) 0).toNat 0).toNat : Nat)) : Int)))) := UT.set hM hs1 (by omega) hlr
                      obtain ⟨⟨h1, h2, h3, h4, h5⟩, h6⟩ := hM
                      have hm4 : (c + r) % 4 < 4 := by omega
                      have g1 := cell_of_row _ _ (4 * c + r) _ _ _ h6
                      rw [row_get M 16 hMl _ (by omega)] at g1
                      have g2 := cell_of_row _ _ (List.getD M (4 * c + r) 0).toNat _ _ _ h2
                      have hxl := (List.getD M (4 * c + r) 0).toNat_lt
                      rw [HBA.out, row_get (bkA t) 256 (bkR_len t 256) _ (by omega)] at g2
                      have g4 := cell_of_row _ _ (4 * ((c + r) % 4) + r) _ _ _ h4
                      rw [row_get _ 16 (unP_len _ _ _ _ 16 HLL.out) _ (by omega)] at g4
                      have g5 := frozen_of_row _ _ (4 * ((c + r) % 4) + r) _ _ h4
                      have q0 : IntKind.i64.wrap (4 * (c : Int)) = 4 * (c : Int) := wrap_i64_7 _ (by omega) (by omega)
                      have q1 : IntKind.i64.wrap (4 * (c : Int) + r) = 4 * (c : Int) + r := wrap_i64_7 _ (by omega) (by omega)
                      have q2 : IntKind.i64.wrap ((c : Int) + r) = (c : Int) + r := wrap_i64_7 _ (by omega) (by omega)
                      have q5 : Int.tmod ((c : Int) + r) 4 = (((c + r) % 4 : Nat) : Int) := by
                        rw [Int.tmod_eq_emod_of_nonneg (by omega)]; omega
                      generalize (c + r) % 4 = m at *
                      have q3 : IntKind.i64.wrap (4 * (m : Int)) = 4 * (m : Int) := wrap_i64_7 _ (by omega) (by omega)
                      have q4 : IntKind.i64.wrap (4 * (m : Int) + r) = 4 * (m : Int) + r := wrap_i64_7 _ (by omega) (by omega)
                      have t1 : (4 * (c : Int) + r).toNat = 4 * c + r := by omega
                      have t2 : (4 * (m : Int) + r).toNat = 4 * m + r := by omega
                      have l1 : (0 : Int) ≤ 4 * (c : Int) + r ∧ 4 * (c : Int) + r < 16 := by omega
                      have l2 : (0 : Int) ≤ 4 * (m : Int) + r ∧ 4 * (m : Int) + r < 16 := by omega
                      generalize List.getD M (4 * c + r) 0 = x at *
                      have l3 : (x.toNat : Int) < 256 := by omega
                      generalize (bkA t).getD x.toNat 0 = y at *
                      generalize (unP (bkA t) M l (4 * c + r)).getD (4 * m + r) 0 = z at *
                      clear h1 h2 h3 h4 h5 h6
                      go_wp2
                      go_roundw
                      case rel => exact ⟨r + 1, by omega, by go_num, HS.out, by simpa using hszc⟩
                      case measure => simp [intOf]; omega
                    · have hr4 : r = 4 := by omega
                      have hrI : ¬ (r : Int) < 4 := by omega
                      have HM1 : Hid (UT w KA BA w1.heap.size (bkA t) l b M (4 * (c + 1)) wr) := by
                        show UT _ _ _ _ _ _ _ _ _ _
                        rw [hr4] at hM
                        exact hM
                      clear hM hr4
                      go_wp2
                      go_roundw
                      case rel => exact ⟨c + 1, by omega, by go_num, HM1.out, hszc⟩
                      case measure => simp [intOf]; omega
                · have hc4 : c = 4 := by omega
                  have hcI : ¬ (c : Int) < 4 := by omega
                  have HM1 : Hid (DE w KA BA w1.heap.size (decR ks t s (10 - (q - 1))) wr) := by
                    show DE _ _ _ _ _ _
                    rw [hc4] at hM
                    rw [HDEC.out, HDM.out]
                    exact hM.1
                  clear hM hc4
                  have qd : IntKind.i64.wrap ((q : Int) - 1) = ((q - 1 : Nat) : Int) := by rw [wrap_i64_7 _ (by omega) (by omega)]; omega
                  go_wp2
                  go_roundw
                  case rel => exact ⟨q - 1, by omega, by first | go_num | (congr 1; omega), HM1.out, hszc⟩
                  case measure => simp [intOf]; omega
            · have hqJ : ¬ (q : Int) < 10 := by omega
              have HDM : Hid (dmA ks l q = X) := by show _ = _; unfold dmA; rw [if_neg hq9, ← HXE.out]
              have HUT : Hid (UT w KA BA w1.heap.size (bkA t) l b X 0 W) := ⟨HFF.out.1, by rw [← HXA.out]; exact HFF.out.2⟩
              go_wp2
              go_loopw [12] (fun i wr => ∃ c : Nat, c ≤ 4 ∧ i = .int .i64 c ∧ UT w KA BA w1.heap.size (bkA t) l b X (4 * c) wr ∧ w1.heap.size + 1 ≤ wr.heap.size) (fun i _ => 4 - (intOf i).toNat)
              case atStart => exact ⟨0, by omega, rfl, HUT.out, by simpa using hszW⟩
              case round =>
                obtain ⟨c, hc, rfl, hM, hszc⟩ := hrel
                by_cases hlc : c < 4
                · have hcI : (c : Int) < 4 := by omega
                  have HM0 : Hid (UT w KA BA w1.heap.size (bkA t) l b X (4 * c) wr ∧ w1.heap.size + 1 ≤ wr.heap.size) := ⟨hM, hszc⟩
                  clear hM hszc
                  go_wp2
                  go_loopw [13] (fun i wr => ∃ r : Nat, r ≤ 4 ∧ i = .int .i64 r ∧ UT w KA BA w1.heap.size (bkA t) l b X (4 * c + r) wr ∧ w1.heap.size + 1 ≤ wr.heap.size) (fun i _ => 4 - (intOf i).toNat)
                  case atStart => exact ⟨0, by omega, rfl, HM0.out.1, HM0.out.2⟩
                  case round =>
                    clear HM0
                    obtain ⟨r, hr, rfl, hM, hszc⟩ := hrel
                    by_cases hlr : r < 4
                    · have hrI : (r : Int) < 4 := by omega
                      have HS : Hid (UT w KA BA w1.heap.size (bkA t) l b X (4 * c + r + 1) (wr.setCell ⟨w1.heap.size, 4 * ((c + r) % 4) + r, none⟩ (.int .u8 (((((bkA t).getD (List.getD X (4 * c + r) 0).toNat 0).toNat : Nat)) : Int)))) := UT.set hM hs1 (by omega) hlr
                      obtain ⟨⟨h1, h2, h3, h4, h5⟩, h6⟩ := hM
                      have hm4 : (c + r) % 4 < 4 := by omega
                      have g1 := cell_of_row _ _ (4 * c + r) _ _ _ h6
                      rw [row_get X 16 hXl _ (by omega)] at g1
                      have g2 := cell_of_row _ _ (List.getD X (4 * c + r) 0).toNat _ _ _ h2
                      have hxl := (List.getD X (4 * c + r) 0).toNat_lt
                      rw [HBA.out, row_get (bkA t) 256 (bkR_len t 256) _ (by omega)] at g2
                      have g4 := cell_of_row _ _ (4 * ((c + r) % 4) + r) _ _ _ h4
                      rw [row_get _ 16 (unP_len _ _ _ _ 16 HLL.out) _ (by omega)] at g4
                      have g5 := frozen_of_row _ _ (4 * ((c + r) % 4) + r) _ _ h4
                      have q0 : IntKind.i64.wrap (4 * (c : Int)) = 4 * (c : Int) := wrap_i64_7 _ (by omega) (by omega)
                      have q1 : IntKind.i64.wrap (4 * (c : Int) + r) = 4 * (c : Int) + r := wrap_i64_7 _ (by omega) (by omega)
                      have q2 : IntKind.i64.wrap ((c : Int) + r) = (c : Int) + r := wrap_i64_7 _ (by omega) (by omega)
                      have q5 : Int.tmod ((c : Int) + r) 4 = (((c + r) % 4 : Nat) : Int) := by
                        rw [Int.tmod_eq_emod_of_nonneg (by omega)]; omega
                      generalize (c + r) % 4 = m at *
                      have q3 : IntKind.i64.wrap (4 * (m : Int)) = 4 * (m : Int) := wrap_i64_7 _ (by omega) (by omega)
                      have q4 : IntKind.i64.wrap (4 * (m : Int) + r) = 4 * (m : Int) + r := wrap_i64_7 _ (by omega) (by omega)
                      have t1 : (4 * (c : Int) + r).toNat = 4 * c + r := by omega
                      have t2 : (4 * (m : Int) + r).toNat = 4 * m + r := by omega
                      have l1 : (0 : Int) ≤ 4 * (c : Int) + r ∧ 4 * (c : Int) + r < 16 := by omega
                      have l2 : (0 : Int) ≤ 4 * (m : Int) + r ∧ 4 * (m : Int) + r < 16 := by omega
                      generalize List.getD X (4 * c + r) 0 = x at *
                      have l3 : (x.toNat : Int) < 256 := by omega
                      generalize (bkA t).getD x.toNat 0 = y at *
                      generalize (unP (bkA t) X l (4 * c + r)).getD (4 * m + r) 0 = z at *
                      clear h1 h2 h3 h4 h5 h6
                      go_wp2
                      go_roundw
                      case rel => exact ⟨r + 1, by omega, by go_num, HS.out, by simpa using hszc⟩
                      case measure => simp [intOf]; omega
                    · have hr4 : r = 4 := by omega
                      have hrI : ¬ (r : Int) < 4 := by omega
                      have HM1 : Hid (UT w KA BA w1.heap.size (bkA t) l b X (4 * (c + 1)) wr) := by
                        show UT _ _ _ _ _ _ _ _ _ _
                        rw [hr4] at hM
                        exact hM
                      clear hM hr4
                      go_wp2
                      go_roundw
                      case rel => exact ⟨c + 1, by omega, by go_num, HM1.out, hszc⟩
                      case measure => simp [intOf]; omega
                · have hc4 : c = 4 := by omega
                  have hcI : ¬ (c : Int) < 4 := by omega
                  have HM1 : Hid (DE w KA BA w1.heap.size (decR ks t s (10 - (q - 1))) wr) := by
                    show DE _ _ _ _ _ _
                    rw [hc4] at hM
                    rw [HDEC.out, HDM.out]
                    exact hM.1
                  clear hM hc4
                  have qd : IntKind.i64.wrap ((q : Int) - 1) = ((q - 1 : Nat) : Int) := by rw [wrap_i64_7 _ (by omega) (by omega)]; omega
                  go_wp2
                  go_roundw
                  case rel => exact ⟨q - 1, by omega, by first | go_num | (congr 1; omega), HM1.out, hszc⟩
                  case measure => simp [intOf]; omega
        · have hq0 : q = 0 := by omega
          have hqI : ¬ (1 : Int) ≤ (q : Int) := by omega
          rw [hq0, show 10 - 0 = 10 from rfl] at hDE hLL
          obtain ⟨RS, hRS⟩ : ∃ RS, RS = ((decA ks t s).map B8).toArray := ⟨_, rfl⟩
          obtain ⟨l, hl⟩ : ∃ l, l = decR ks t s 10 := ⟨_, rfl⟩
          have hRe : decA ks t s = xrA l (keyA ks 0) := by unfold decA; rw [← hl]
          rw [← hl] at hDE hLL
          have hKl := keyA_len ks 0 HK.out (by omega)
          have hRl : (decA ks t s).length = 16 := by rw [hRe]; exact xrA_len _ _ 16 hLL hKl
          have hr8 : RS.size = 16 := by rw [hRS]; simp [hRl]
          obtain ⟨LA, hLA⟩ : ∃ LA, LA = (l.map B8).toArray := ⟨_, rfl⟩
          obtain ⟨K0, hK0⟩ : ∃ K0, K0 = (keyA ks 0).map B8 := ⟨_, rfl⟩
          have hx := fun W => xor_any l (keyA ks 0) W hLL hKl
          rw [← hRe, ← hRS, ← hLA, ← hK0] at hx
          have HIL : Hid ((Try.prog.info? 26).map (·.size) = some LA.size) := by show _ = _; rw [hLA]; simp only [List.size_toArray, List.length_map, hLL]; kernel_rfl
          have HIK : Hid ((Try.prog.info? 26).map (·.size) = some K0.length) := by show _ = _; rw [hK0, List.length_map, hKl]; kernel_rfl
          have HRI : Hid ((Try.prog.info? 26).map (·.size) = some RS.size) := by show _ = _; rw [hr8]; kernel_rfl
          have HR1 : Hid (RS.all (·.oneCell') = true) := by show _ = _; rw [hRS]; exact B8_onea _
          have HLR : Hid (wr.heap[w1.heap.size]? = some (.cells LA 26 (0, 0))) := by show _ = _; rw [hLA]; exact hDE.2.2.2.1
          have HKR : Hid (wr.rangeAt w.heap.size 0 K0) := by
            have := keyA_range (w := wr) (ks := ks) 0 (by rw [← HKA.out]; exact hDE.1)
            rw [hK0]; exact this
          have HRS : Hid _ := hRS
          have HR8 : Hid _ := hr8
          have HDE : Hid (DE w KA BA w1.heap.size l wr) := hDE
          clear hq0 hDE hLL hRS hl hRe hKl hRl hr8 hLA hK0
          go_wp2_with (first
            | (refine wpList_load_row rfl 26 _ rfl w1.heap.size rfl 26 LA (0, 0) _ HLR.out Try.underlying26 rfl HIL.out ?_)
            | (refine wpList_load_mid rfl 26 _ rfl w.heap.size 0 rfl K0 _ HKR.out Try.underlying26 rfl HIK.out ?_))
          refine (hx _).mono ?_
          rintro e w5 ⟨rfl, hb5⟩
          have hDE5 : DE w KA BA w1.heap.size l w5 := HDE.out.below hb5 (by omega) (by omega)
          obtain ⟨h1, h2, ⟨Z, hZ, h3⟩, h4, h5⟩ := hDE5
          have HR : Hid _ := h3
          have HZZ : Hid _ := hZ.trans HR8.out.symm
          have HB5 : Hid _ := h5
          clear h1 h2 h3 h4 h5 hZ hb5 hx
          go_wp2_with (first
            | (refine wpList_store_row rfl 26 _ _ rfl (w.heap.size + 1 + 1 + 1) _ rfl rfl 26 _ HR.out HRI.out HZZ.out HR1.out ?_))
          refine bodyPost_ret (v := .agg RS) ?_ rfl ⟨by rw [HRS.out], below_setRow HB5.out (by omega) _⟩
          exact results_cell_row Try.results24 _ _ (w.heap.size + 1 + 1 + 1) 26 _ (0, 0) _ rfl (setRow_heap _ _ _ _ _ _ HR.out) Try.underlying26 rfl HRI.out

end Go.Proofs.Ytjohckgdbbhpdaa
