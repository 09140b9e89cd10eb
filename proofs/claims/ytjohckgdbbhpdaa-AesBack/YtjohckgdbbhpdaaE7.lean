/- Contract of ref 4's Encipher. -/
import Derived.Test.YtjohckgdbbhpdaaD7
set_option linter.unusedVariables false
set_option linter.unusedSimpArgs false
namespace Go.Proofs.Ytjohckgdbbhpdaa
open Go.RowKit

theorem bpart_cell' (n : Nat) (T : List UInt8) (k : Nat) (hT : T.length = n) (h : k < n) : ∃ u, ((bpart n T k).map B8).toArray[k]? = some (.int .u8 u) := by
  have hl : k < (bpart n T k).length := by rw [bpart_len n T k hT (by omega)]; exact h
  exact ⟨_, by simp only [List.getElem?_toArray, List.getElem?_map, List.getElem?_eq_getElem hl]; rfl⟩
/-- Key number i of eleven that lie end to end. -/
def keyA (ks : List UInt8) (i : Nat) : List UInt8 := (ks.drop (16 * i)).take 16
theorem keyA_len (ks : List UInt8) (i : Nat) (h : ks.length = 176) (hi : i < 11) : (keyA ks i).length = 16 := by unfold keyA; simp [h]; omega
/-- Bytes set through a table, rows turned. -/
def stA (t s : List UInt8) : List UInt8 := (List.range 16).map fun j => t.getD (s.getD (4 * ((j / 4 + j % 4) % 4) + j % 4) 0).toNat 0
/-- As far as j. -/
theorem stA_len (t s : List UInt8) : (stA t s).length = 16 := by unfold stA; simp
theorem stA_get (t s : List UInt8) (c r : Nat) (hc : c < 4) (hr : r < 4) : (stA t s).getD (4 * c + r) 0 = t.getD (s.getD (4 * ((c + r) % 4) + r) 0).toNat 0 := by
  unfold stA
  rw [List.getD, List.getElem?_map, List.getElem?_range (by omega)]
  show t.getD (s.getD (4 * (((4 * c + r) / 4 + (4 * c + r) % 4) % 4) + (4 * c + r) % 4) 0).toNat 0 = _
  rw [show (4 * c + r) / 4 = c by omega, show (4 * c + r) % 4 = r by omega]
/-- A round. -/
def rndA (ks t s : List UInt8) (i : Nat) : List UInt8 := xrA (if i < 10 then mxA (stA t s) [2, 3, 1, 1] else stA t s) (keyA ks i)
/-- Rounds 1 to n. -/
def encR (ks t s : List UInt8) : Nat → List UInt8
  | 0 => xrA s (keyA ks 0)
  | n + 1 => rndA ks t (encR ks t s n) (n + 1)
/-- A block under a key. -/
def encA (ks t s : List UInt8) : List UInt8 := encR ks t s 10
theorem rndA_len (ks t s : List UInt8) (i : Nat) (h : ks.length = 176) (hi : i < 11) : (rndA ks t s i).length = 16 := by
  unfold rndA
  refine xrA_len _ _ 16 ?_ (keyA_len ks i h hi)
  by_cases h10 : i < 10
  · rw [if_pos h10]; exact mxA_len _ _
  · rw [if_neg h10]; exact stA_len _ _
theorem encR_len (ks t s : List UInt8) (n : Nat) (h : ks.length = 176) (hs : s.length = 16) (hn : n < 11) : (encR ks t s n).length = 16 := by
  cases n with
  | zero => exact xrA_len _ _ 16 hs (keyA_len ks 0 h (by omega))
  | succ n => exact rndA_len _ _ _ _ h hn

theorem keyA_range {w : World} {b : Nat} {ks : List UInt8} {ty : TypeId} {fr : Nat × Nat} (i : Nat) (h : w.heap[b]? = some (.cells (ks.map B8).toArray ty fr)) : w.rangeAt b (16 * i) ((keyA ks i).map B8) := fun j v hv => by
  rw [cell_of_row _ _ (16 * i + j) _ _ _ h]
  unfold keyA at hv
  simp only [List.getElem?_map, List.getElem?_take, List.getElem?_drop] at hv
  by_cases hj : j < 16
  · rw [if_pos hj] at hv
    simp only [List.getElem?_toArray, List.getElem?_map]
    exact hv
  · rw [if_neg hj] at hv; simp at hv

/-- What stays while Encipher runs; in block g lies l. -/
def EN (w : World) (KA TA : Array Value) (g : Nat) (l : List UInt8) (wr : World) : Prop :=
  wr.heap[w.heap.size]? = some (.cells KA 29 (0, 0)) ∧ wr.heap[w.heap.size + 1 + 1]? = some (.cells TA 27 (0, 0)) ∧ (∃ Z : Array Value, Z.size = 16 ∧ wr.heap[w.heap.size + 1 + 1 + 1]? = some (.cells Z 26 (0, 0))) ∧ wr.heap[g]? = some (.cells (l.map B8).toArray 26 (0, 0)) ∧ Below w.heap.size w wr
theorem EN.below {w : World} {KA TA : Array Value} {g B : Nat} {l : List UInt8} {a b : World} (h : EN w KA TA g l a) (hb : Below B a b) (hg : g < B) (hB : w.heap.size + 4 ≤ B) : EN w KA TA g l b := by
  obtain ⟨h1, h2, ⟨Z, z1, z2⟩, h3, h4⟩ := h
  exact ⟨(hb.block _ (by omega)).trans h1, (hb.block _ (by omega)).trans h2, ⟨Z, z1, (hb.block _ (by omega)).trans z2⟩, (hb.block _ hg).trans h3, h4.trans (hb.mono (by omega))⟩
theorem EN.set {w : World} {KA TA : Array Value} {g : Nat} {l l' : List UInt8} {a : World} (h : EN w KA TA g l a) (hg : w.heap.size + 4 ≤ g) (N : Array Value) (hN : N = (l'.map B8).toArray) : EN w KA TA g l' (a.setRow g N) := by
  obtain ⟨h1, h2, ⟨Z, z1, z2⟩, h3, h4⟩ := h
  refine ⟨?_, ?_, ⟨Z, z1, ?_⟩, ?_, below_setRow h4 (by omega) _⟩
  · exact ((below_setRow (Below.refl g a) (Nat.le_refl _) N).block _ (by omega)).trans h1
  · exact ((below_setRow (Below.refl g a) (Nat.le_refl _) N).block _ (by omega)).trans h2
  · exact ((below_setRow (Below.refl g a) (Nat.le_refl _) N).block _ (by omega)).trans z2
  · rw [hN]; exact setRow_heap _ _ _ _ _ _ h3

theorem EN.drew {w : World} {KA TA : Array Value} {g : Nat} {l : List UInt8} {wr : World} (h : EN w KA TA g l wr) : EN w KA TA g l wr.drew := by
  unfold EN at *
  rw [heap_drew]
  exact ⟨h.1, h.2.1, h.2.2.1, h.2.2.2.1, h.2.2.2.2.drew⟩
theorem EN.start {w w1 : World} {KA TA ZA : Array Value} {l : List UInt8} (h1 : w1.heap[w.heap.size]? = some (.cells KA 29 (0, 0))) (h2 : w1.heap[w.heap.size + 1 + 1]? = some (.cells TA 27 (0, 0))) (h3 : w1.heap[w.heap.size + 1 + 1 + 1]? = some (.cells ZA 26 (0, 0))) (hz : ZA.size = 16) (hb : Below w.heap.size w w1) (hs : w.heap.size + 4 ≤ w1.heap.size) (E0 o : Array Value) (hE : E0 = (l.map B8).toArray) :
    EN w KA TA w1.heap.size l ((w1.alloc (.cells o 26 (0, 0))).setRow w1.heap.size E0) := by
  have hb' : Below w1.heap.size w1 ((w1.alloc (.cells o 26 (0, 0))).setRow w1.heap.size E0) := below_setRow ((Below.refl _ _).alloc (Nat.le_refl _) _) (Nat.le_refl _) _
  refine ⟨(hb'.block _ (by omega)).trans h1, (hb'.block _ (by omega)).trans h2, ⟨ZA, hz, (hb'.block _ (by omega)).trans h3⟩, ?_, hb.trans (hb'.mono (by omega))⟩
  rw [hE]; exact setRow_heap _ _ _ _ _ _ (heap_at _ _ _ rfl)
/-- A second block, b, filled up to k. -/
def TT (w : World) (KA TA : Array Value) (g : Nat) (l : List UInt8) (b : Nat) (T : List UInt8) (k : Nat) (wr : World) : Prop :=
  EN w KA TA g l wr ∧ wr.heap[b]? = some (.cells ((bpart 16 T k).map B8).toArray 26 (0, 0)) ∧ wr.heap.size = b + 1
theorem TT.start {w : World} {KA TA : Array Value} {g : Nat} {l T : List UInt8} {w2 : World} (h : EN w KA TA g l w2) (hg : g < w2.heap.size) (hs : w.heap.size + 4 ≤ w2.heap.size) (ZA : Array Value) (hz : ZA = ((List.replicate 16 (0 : UInt8)).map B8).toArray) :
    TT w KA TA g l w2.heap.size T 0 (w2.alloc (.cells ZA 26 (0, 0))) := by
  refine ⟨h.below ((Below.refl _ _).alloc (Nat.le_refl _) _) hg hs, ?_, by simp⟩
  rw [heap_at _ _ _ rfl, hz]
  unfold bpart
  rw [List.take_zero, List.nil_append]
theorem TT.set {w : World} {KA TA : Array Value} {g : Nat} {l T : List UInt8} {b k : Nat} {wr : World} (h : TT w KA TA g l b T k wr) (hg : g < b) (hb : w.heap.size + 4 ≤ b) (hT : T.length = 16) (hk : k < 16) :
    TT w KA TA g l b T (k + 1) (wr.setCell ⟨b, k, none⟩ (B8 (T.getD k 0))) := by
  obtain ⟨h1, h2, h3⟩ := h
  refine ⟨h1.below ((Below.refl b wr).setCell (p := ⟨b, k, none⟩) (Nat.le_refl _) _) hg hb, ?_, by simpa using h3⟩
  rw [← bpart_set 16 T k hT hk]; exact heap_setCell_same _ b k _ 26 _ h2
/-- What stays while the round's end runs. -/
def SS (w : World) (KA TA : Array Value) (g b : Nat) (ML KL : List Value) (o : Nat) (wr : World) : Prop :=
  wr.rangeAt b 0 ML ∧ wr.rangeAt w.heap.size o KL ∧ (∃ l : List UInt8, l.length = 16 ∧ EN w KA TA g l wr) ∧ b < wr.heap.size ∧ g < wr.heap.size
theorem SS.below {w : World} {KA TA : Array Value} {g b o : Nat} {ML KL : List Value} {x y : World} (h : SS w KA TA g b ML KL o x) (hg : w.heap.size + 4 ≤ g) (hb : Below x.heap.size x y) : SS w KA TA g b ML KL o y := by
  obtain ⟨h1, h2, ⟨l, hl, h3⟩, h4, h5⟩ := h
  have := hb.size
  exact ⟨rangeAt_below h1 hb, rangeAt_below h2 hb, ⟨l, hl, h3.below hb h5 (by omega)⟩, by omega, by omega⟩
theorem SS.set {w : World} {KA TA : Array Value} {g b o : Nat} {ML KL : List Value} {x : World} (h : SS w KA TA g b ML KL o x) (hg : w.heap.size + 4 ≤ g) (hgb : g < b) (N : Array Value) (l' : List UInt8) (hl' : l'.length = 16) (hN : N = (l'.map B8).toArray) : SS w KA TA g b ML KL o (x.setRow g N) := by
  obtain ⟨h1, h2, ⟨l, hl, h3⟩, h4, h5⟩ := h
  exact ⟨rangeAt_setRow h1 (by omega), rangeAt_setRow h2 (by omega), ⟨l', hl', h3.set hg N hN⟩, by simpa using h4, by simpa using h5⟩
theorem SS.of {w : World} {ks : List UInt8} {TA : Array Value} {g b q : Nat} {l M : List UInt8} {x : World} (h : EN w (ks.map B8).toArray TA g l x) (hl : l.length = 16) (hm : x.heap[b]? = some (.cells (M.map B8).toArray 26 (0, 0))) : SS w (ks.map B8).toArray TA g b (M.map B8) ((keyA ks q).map B8) (q * 16) x.drew := by
  refine ⟨rangeAt_row (by rw [heap_drew]; exact hm), ?_, ⟨l, hl, h.drew⟩, by rw [heap_drew]; exact row_lt hm, by rw [heap_drew]; exact row_lt h.2.2.2.1⟩
  rw [Nat.mul_comm]; exact keyA_range q h.drew.1
theorem encR_step (ks t s : List UInt8) (q : Nat) (h : 1 ≤ q) : encR ks t s q = rndA ks t (encR ks t s (q - 1)) q := by
  cases q with
  | zero => omega
  | succ n => rfl


set_option maxHeartbeats 20000000 in
set_option maxRecDepth 100000 in
theorem encipher_any (ks s t : List UInt8) (w : World) (hk : ks.length = 176) (hs : s.length = 16) (ht : t.length = 256) :
    Calls Try.prog 22 #[.agg (ks.map B8).toArray, .agg (s.map B8).toArray, .agg (t.map B8).toArray] w fun e w' => e = .returned (.agg ((encA ks t s).map B8).toArray) ∧ Below w.heap.size w w' := by
  have HK0 : Hid _ := fun i hi => keyA_len ks i hk hi
  have hx0 := fun W => xor_any s (keyA ks 0) W hs (HK0.out 0 (by omega))
  have HKR : Hid (∀ (W : World) (b i : Nat), W.heap[b]? = some (.cells (ks.map B8).toArray 29 (0, 0)) → W.rangeAt b (16 * i) ((keyA ks i).map B8)) := fun W b i h => keyA_range i h
  have HKI : Hid (∀ i, i < 11 → (Try.prog.info? 26).map (·.size) = some ((keyA ks i).map B8).length) := fun i hi => by rw [List.length_map, HK0.out i hi]; kernel_rfl
  have HI16 : Hid (∀ l : List UInt8, l.length = 16 → (Try.prog.info? 26).map (·.size) = some (l.map B8).toArray.size) := fun l hl => by simp only [List.size_toArray, List.length_map, hl]; kernel_rfl
  have HEL : Hid _ := fun n hn => encR_len ks t s n hk hs hn
  have hE0 : xrA s (keyA ks 0) = encR ks t s 0 := rfl
  rw [hE0] at hx0
  have HSL : Hid _ := hs
  have HTL : Hid _ := ht
  obtain ⟨KA, hKA⟩ : ∃ KA, KA = (ks.map B8).toArray := ⟨_, rfl⟩
  obtain ⟨SA, hSA⟩ : ∃ SA, SA = (s.map B8).toArray := ⟨_, rfl⟩
  obtain ⟨TA, hTA⟩ : ∃ TA, TA = (t.map B8).toArray := ⟨_, rfl⟩
  have HIS : Hid ((Try.prog.info? 26).map (·.size) = some SA.size) := by show _ = _; rw [hSA]; exact HI16.out s hs
  rw [← hKA, ← hSA, ← hTA]
  rw [← hKA] at HKR
  rw [← hSA] at hx0
  have HKA : Hid _ := hKA
  have HSA : Hid _ := hSA
  have HTA : Hid _ := hTA
  obtain ⟨K0, hK0⟩ : ∃ K0, K0 = (keyA ks 0).map B8 := ⟨_, rfl⟩
  have HK0E : Hid _ := hK0
  rw [← hK0] at hx0
  clear hKA hSA hTA hE0 hs ht hk hK0
  have hzv := fun W => zero16 W
  obtain ⟨ZA, hZA⟩ : ∃ ZA, ZA = ((List.replicate 16 (0 : UInt8)).map B8).toArray := ⟨_, rfl⟩
  rw [← hZA] at hzv
  have HZA : Hid _ := hZA
  have HZS : Hid (ZA.size = 16) := by show _ = _; rw [hZA]; simp
  clear hZA
  go_enter Try.func22, Try.ntmps22
  go_wp2_with (first
    | (refine wpList_load_row rfl 26 _ rfl (w.heap.size + 1) rfl 26 SA (0, 0) _ (by repeat (first | exact heap_at _ _ _ (by simp) | rw [Below.heap_alloc _ _ _ (by first | (simp; omega) | simp)])) Try.underlying26 rfl HIS.out ?_)
    | (refine wpList_load_mid rfl 26 _ rfl w.heap.size 0 rfl K0 _ (by rw [HK0E.out]; exact HKR.out _ w.heap.size 0 (by repeat (first | exact heap_at _ _ _ (by simp) | rw [Below.heap_alloc _ _ _ (by first | (simp; omega) | simp)]))) Try.underlying26 rfl (by rw [HK0E.out]; exact HKI.out 0 (by omega)) ?_))
  refine (hx0 _).mono ?_
  rintro e w1 ⟨rfl, hb1⟩
  have g0 := below_blk hb1 (i := w.heap.size) (by first | (simp; omega) | simp) (show _ = some (.cells KA 29 (0, 0)) by repeat (first | exact heap_at _ _ _ (by simp) | rw [Below.heap_alloc _ _ _ (by first | (simp; omega) | simp)]))
  have g2 := below_blk hb1 (i := w.heap.size + 1 + 1) (by first | (simp; omega) | simp) (show _ = some (.cells TA 27 (0, 0)) by repeat (first | exact heap_at _ _ _ (by simp) | rw [Below.heap_alloc _ _ _ (by first | (simp; omega) | simp)]))
  have g3 := below_blk hb1 (i := w.heap.size + 1 + 1 + 1) (by first | (simp; omega) | simp) (heap_at _ _ _ (by simp))
  have hbw1 : Below w.heap.size w w1 := (((((Below.refl _ _).alloc (Nat.le_refl _) _).alloc (by simp) _).alloc (by simp; omega) _).alloc (by simp; omega) _).trans (hb1.mono (by simp; omega))
  have hs1 : w.heap.size + 4 ≤ w1.heap.size := by have := hb1.size; simp at this; omega
  have G0 : Hid _ := g0
  have G2 : Hid _ := g2
  have G3 : Hid _ := g3
  have HBW1 : Hid _ := hbw1
  clear g0 g2 g3 hb1 hx0 hbw1
  have HE0 : Hid _ := HEL.out 0 (by omega)
  obtain ⟨E0, hE0⟩ : ∃ E0, E0 = ((encR ks t s 0).map B8).toArray := ⟨_, rfl⟩
  have HIE : Hid ((Try.prog.info? 26).map (·.size) = some E0.size) := by show _ = _; rw [hE0]; exact HI16.out _ HE0.out
  have HE1 : Hid (E0.all (·.oneCell') = true) := by show _ = _; rw [hE0]; exact B8_onea _
  have HES : Hid (E0.size = 16) := by show _ = _; rw [hE0]; simp [HE0.out]
  rw [← hE0]
  have HE : Hid _ := hE0
  clear hE0
  go_wp2_with (first
    | (refine wpList_store_row rfl 26 _ _ rfl w1.heap.size E0 rfl rfl 26 _ (heap_at _ _ _ rfl) HIE.out (by rw [HES.out]; exact HZS.out) HE1.out ?_))
  go_loopw [8] (fun i wr => ∃ q : Nat, 1 ≤ q ∧ q ≤ 11 ∧ i = .int .i64 q ∧ EN w KA TA w1.heap.size (encR ks t s (q - 1)) wr ∧ w1.heap.size + 1 ≤ wr.heap.size) (fun i _ => 11 - (intOf i).toNat)
  case atStart => exact ⟨1, by omega, by omega, rfl, EN.start G0.out G2.out G3.out HZS.out HBW1.out hs1 E0 _ HE.out, by simp⟩
  case round =>
    obtain ⟨q, hq1, hq11, rfl, hEN, hsz⟩ := hrel
    clear G0 G2 G3 HBW1 HE0 HIE HE1 HES HE
    obtain ⟨w2, hw2⟩ : ∃ w2, w2 = wr := ⟨_, rfl⟩
    subst hw2
    have hLL : (encR ks t s (q - 1)).length = 16 := HEL.out (q - 1) (by omega)
    have HENC : Hid _ := encR_step ks t s q hq1
    by_cases hlt : q ≤ 10
    · have hqI : (q : Int) ≤ 10 := by omega
      obtain ⟨l, hl⟩ : ∃ l, l = encR ks t s (q - 1) := ⟨_, rfl⟩
      rw [← hl] at hEN hLL HENC
      obtain ⟨T, hT⟩ : ∃ T, T = stA t l := ⟨_, rfl⟩
      have HTL16 : Hid (T.length = 16) := by show _ = _; rw [hT]; exact stA_len _ _
      have HTG : Hid (∀ c r, c < 4 → r < 4 → T.getD (4 * c + r) 0 = t.getD (l.getD (4 * ((c + r) % 4) + r) 0).toNat 0) := fun c r hc hr => by rw [hT]; exact stA_get t l c r hc hr
      have HTE : Hid _ := hT
      have HLL : Hid _ := hLL
      have HTT : Hid (TT w KA TA w1.heap.size l w2.heap.size T 0 (w2.alloc (.cells ZA 26 (0, 0)))) := TT.start hEN (by omega) (by omega) ZA HZA.out
      clear hEN hT hl hLL
      go_wp2
      go_loopw [10] (fun i wr => ∃ c : Nat, c ≤ 4 ∧ i = .int .i64 c ∧ TT w KA TA w1.heap.size l w2.heap.size T (4 * c) wr) (fun i _ => 4 - (intOf i).toNat)
      case atStart => exact ⟨0, by omega, rfl, HTT.out⟩
      case round =>
        clear HTT
        obtain ⟨c, hc, rfl, hM⟩ := hrel
        by_cases hlc : c < 4
        · have hcI : (c : Int) < 4 := by omega
          have HM0 : Hid (TT w KA TA w1.heap.size l w2.heap.size T (4 * c) wr) := hM
          clear hM
          go_wp2
          go_loopw [11] (fun i wr => ∃ r : Nat, r ≤ 4 ∧ i = .int .i64 r ∧ TT w KA TA w1.heap.size l w2.heap.size T (4 * c + r) wr) (fun i _ => 4 - (intOf i).toNat)
          case atStart => exact ⟨0, by omega, rfl, HM0.out⟩
          case round =>
            clear HM0
            obtain ⟨r, hr, rfl, hM⟩ := hrel
            by_cases hlr : r < 4
            · have hrI : (r : Int) < 4 := by omega
              have HS : Hid (TT w KA TA w1.heap.size l w2.heap.size T (4 * c + r + 1) (wr.setCell ⟨w2.heap.size, 4 * c + r, none⟩ (.int .u8 (((T.getD (4 * c + r) 0).toNat : Nat) : Int)))) := TT.set hM (by omega) (by omega) HTL16.out (by omega)
              obtain ⟨⟨h1, h2, h3, h4, h5⟩, h6, h7⟩ := hM
              have hm4 : (c + r) % 4 < 4 := by omega
              have g1 := cell_of_row _ _ (4 * ((c + r) % 4) + r) _ _ _ h4
              rw [row_get l 16 HLL.out _ (by omega)] at g1
              have g2 := cell_of_row _ _ (l.getD (4 * ((c + r) % 4) + r) 0).toNat _ _ _ h2
              have hxl := (l.getD (4 * ((c + r) % 4) + r) 0).toNat_lt
              rw [HTA.out, row_get t 256 HTL.out _ (by omega)] at g2
              obtain ⟨u, hu⟩ := bpart_cell' 16 T (4 * c + r) HTL16.out (by omega)
              have g4 := cell_of_row _ _ (4 * c + r) _ _ _ h6
              rw [hu] at g4
              have g5 := frozen_of_row _ _ (4 * c + r) _ _ h6
              rw [HTG.out c r hlc hlr] at HS
              have q0 : IntKind.i64.wrap (4 * (c : Int)) = 4 * (c : Int) := wrap_i64_7 _ (by omega) (by omega)
              have q1 : IntKind.i64.wrap (4 * (c : Int) + r) = 4 * (c : Int) + r := wrap_i64_7 _ (by omega) (by omega)
              have q2 : IntKind.i64.wrap ((c : Int) + r) = (c : Int) + r := wrap_i64_7 _ (by omega) (by omega)
              have q5 : Int.tmod ((c : Int) + r) 4 = (((c + r) % 4 : Nat) : Int) := by
                rw [Int.tmod_eq_emod_of_nonneg (by omega)]; omega
              generalize (c + r) % 4 = m at *
              have q3 : IntKind.i64.wrap (4 * (m : Int)) = 4 * (m : Int) := wrap_i64_7 _ (by omega) (by omega)
              have q4 : IntKind.i64.wrap (4 * (m : Int) + r) = 4 * (m : Int) + r := wrap_i64_7 _ (by omega) (by omega)
              have t1 : (4 * (c : Int) + r).toNat = 4 * c + r := by omega
              have t2 : (4 * (m : Int) + r).toNat = 4 * m + r := by omega
              have l1 : (0 : Int) ≤ 4 * (c : Int) + r ∧ 4 * (c : Int) + r < 16 := by omega
              have l2 : (0 : Int) ≤ 4 * (m : Int) + r ∧ 4 * (m : Int) + r < 16 := by omega
              generalize l.getD (4 * m + r) 0 = x at *
              have l3 : (x.toNat : Int) < 256 := by omega
              generalize t.getD x.toNat 0 = y at *
              clear h1 h2 h3 h4 h5 h6 h7 hu
              go_wp2
              go_roundw
              case rel => exact ⟨r + 1, by omega, by go_num, HS.out⟩
              case measure => simp [intOf]; omega
            · have hr4 : r = 4 := by omega
              have hrI : ¬ (r : Int) < 4 := by omega
              have HM1 : Hid (TT w KA TA w1.heap.size l w2.heap.size T (4 * (c + 1)) wr) := by
                show TT _ _ _ _ _ _ _ _ _
                rw [hr4] at hM
                exact hM
              clear hM hr4
              go_wp2
              go_roundw
              case rel => exact ⟨c + 1, by omega, by go_num, HM1.out⟩
              case measure => simp [intOf]; omega
        · have hc4 : c = 4 := by omega
          have hcI : ¬ (c : Int) < 4 := by omega
          rw [hc4] at hM
          obtain ⟨hEN, hb2, hsz2⟩ := hM
          rw [show 4 * 4 = 16 from rfl, bpart_all 16 T HTL16.out] at hb2
          by_cases hq9 : q < 10
          · have hqJ : (q : Int) < 10 := by omega
            obtain ⟨M, hM⟩ : ∃ M, M = mxA T [2, 3, 1, 1] := ⟨_, rfl⟩
            have hMl : M.length = 16 := by rw [hM]; exact mxA_len _ _
            have hmx : ∀ W, Calls Try.prog 38 #[.agg (T.map B8).toArray, .agg #[.int .u8 2, .int .u8 3, .int .u8 1, .int .u8 1]] W fun e w' => e = .returned (.agg (M.map B8).toArray) ∧ Below W.heap.size W w' := fun W => by rw [hM]; exact mixed_any T [2, 3, 1, 1] W HTL16.out rfl
            have hnx : encR ks t s q = xrA M (keyA ks q) := by rw [HENC.out]; unfold rndA; rw [if_pos hq9, ← HTE.out, ← hM]
            obtain ⟨MA, hMA⟩ : ∃ MA, MA = (M.map B8).toArray := ⟨_, rfl⟩
            obtain ⟨TR, hTR⟩ : ∃ TR, TR = (T.map B8).toArray := ⟨_, rfl⟩
            have HITR : Hid ((Try.prog.info? 26).map (·.size) = some TR.size) := by show _ = _; rw [hTR]; exact HI16.out _ HTL16.out
            have HIMA : Hid ((Try.prog.info? 26).map (·.size) = some MA.size) := by show _ = _; rw [hMA]; exact HI16.out _ hMl
            have HMA1 : Hid (MA.all (·.oneCell') = true) := by show _ = _; rw [hMA]; exact B8_onea _
            have HSZ : Hid (TR.size = MA.size) := by show _ = _; rw [hTR, hMA]; simp [HTL16.out, hMl]
            rw [← hMA, ← hTR] at hmx
            rw [← hTR] at hb2
            have HB2 : Hid _ := hb2
            have HNX : Hid _ := hnx
            have HMAE : Hid _ := hMA
            have HENE : Hid (EN w KA TA w1.heap.size l wr) := hEN
            clear hb2 hnx hMA hTR hM hEN hc4
            go_wp2_with (first
              | (refine wpList_load_row rfl 26 _ rfl w2.heap.size rfl 26 TR (0, 0) _ HB2.out Try.underlying26 rfl HITR.out ?_))
            refine (hmx _).mono ?_
            rintro e w3 ⟨rfl, hb3⟩
            have hb2' := (hb3.block w2.heap.size (by omega)).trans HB2.out
            have hEN3 : EN w KA TA w1.heap.size l w3 := HENE.out.below hb3 (by omega) (by omega)
            have hrow3 : (w3.setRow w2.heap.size MA).heap[w2.heap.size]? = some (.cells (M.map B8).toArray 26 (0, 0)) := by rw [← HMAE.out]; exact setRow_heap _ _ _ _ _ _ hb2'
            have hENr : EN w KA TA w1.heap.size l (w3.setRow w2.heap.size MA) := hEN3.below (below_setRow (Below.refl w2.heap.size w3) (Nat.le_refl _) MA) (by omega) (by omega)
            have HB2' : Hid _ := hb2'
            have HFF : Hid (EN w KA TA w1.heap.size l (w3.setRow w2.heap.size MA) ∧ (w3.setRow w2.heap.size MA).heap[w2.heap.size]? = some (.cells (M.map B8).toArray 26 (0, 0))) := ⟨hENr, hrow3⟩
            clear hb3 hb2' hEN3 hrow3 hENr hmx
            go_wp2_with (first
              | (refine wpList_store_row rfl 26 _ _ rfl w2.heap.size MA rfl rfl 26 _ HB2'.out HIMA.out HSZ.out HMA1.out ?_))
            obtain ⟨ML, hML⟩ : ∃ ML, ML = List.map B8 M := ⟨_, rfl⟩
            obtain ⟨KL, hKL⟩ : ∃ KL, KL = (keyA ks q).map B8 := ⟨_, rfl⟩
            obtain ⟨NA, hNA⟩ : ∃ NA, NA = ((encR ks t s q).map B8).toArray := ⟨_, rfl⟩
            have hNl := HEL.out q (by omega)
            have hx := fun W => xor_any M (keyA ks q) W hMl (HK0.out q (by omega))
            rw [← HNX.out, ← hNA, ← hML, ← hKL] at hx
            have hiM : (Try.prog.info? 26).map (·.size) = some ML.length := by rw [hML, List.length_map, hMl]; kernel_rfl
            have hiK : (Try.prog.info? 26).map (·.size) = some KL.length := by rw [hKL]; exact HKI.out q (by omega)
            have hiN : (Try.prog.info? 26).map (·.size) = some NA.size := by rw [hNA]; exact HI16.out _ hNl
            have hN1 : NA.all (·.oneCell') = true := by rw [hNA]; exact B8_onea _
            have hN8 : NA.size = 16 := by rw [hNA]; simp [hNl]
            have hu := Try.underlying26
            have HSS : Hid (SS w KA TA w1.heap.size w2.heap.size ML KL (q * 16) (World.drew (w3.setRow w2.heap.size MA))) := by
              have := SS.of (q := q) (w := w) (ks := ks) (TA := TA) (g := w1.heap.size) (b := w2.heap.size) (l := l) (M := M) (x := w3.setRow w2.heap.size MA) (by rw [← HKA.out]; exact (HFF.out).1) HLL.out (HFF.out).2
              rw [← HKA.out, ← hML, ← hKL] at this
              exact this
            have HNA : Hid _ := hNA
            have HNL : Hid _ := hNl
            have HIN : Hid _ := hiN
            have HN1 : Hid _ := hN1
            have HN8 : Hid _ := hN8
            clear hML hKL hNA hNl hiN hN1 hN8
            go_wp2
            refine wp_region_held_drew (S := SS w KA TA w1.heap.size w2.heap.size ML KL (q * 16)) (by kernel_rfl) HSS.out (fun hHeld => ?_)
            refine wpAnyH_take (i := 0) (oi := { dst := some 49, op := Go.Op.load 26 (Go.Operand.tmp 9), type := 26, pos := _, after := #[], guard := none }) rfl (by kernel_rfl) (by kernel_rfl) (by kernel_rfl) (fun _ _ _ h => h) (yieldsIf_load_mid (by rfl) 26 (.tmp 9) rfl (w2.heap.size) (0) rfl (ML) _ (fun _ h => h.1) hu rfl hiM) hHeld ?_
            try simp only [Act.put, List.setIfInBounds_toArray, List.set_cons_zero, List.set_cons_succ]
            refine wpAnyH_take (i := 1) (oi := { dst := some 50, op := Go.Op.move (Go.Operand.tmp 8), type := 3, pos := _, after := #[], guard := none }) (v := .int .i64 (q : Int)) rfl (by kernel_rfl) (by kernel_rfl) (by kernel_rfl) (fun _ _ _ h => h) (Or.inl ⟨by rfl, fun w' hw' => ?_⟩) hHeld ?_
            · first | (go_simp; done) | (go_simp; rfl)
            try simp only [Act.put, List.setIfInBounds_toArray, List.set_cons_zero, List.set_cons_succ]
            refine wpAnyH_take (i := 2) (oi := { dst := some 51, op := Go.Op.indexAddr 29 (Go.Operand.tmp 3) (Go.Operand.tmp 50), type := 0, pos := _, after := #[{ on := 1, ground := Go.Ground.data }], guard := none }) (v := .pointer (some ⟨w.heap.size, q * 16, none⟩)) rfl (by kernel_rfl) (by kernel_rfl) (by kernel_rfl) (fun _ _ _ h => h) (Or.inl ⟨by rfl, fun w' hw' => ?_⟩) hHeld ?_
            · (go_simp; intro hbad; omega)
            try simp only [Act.put, List.setIfInBounds_toArray, List.set_cons_zero, List.set_cons_succ]
            refine wpAnyH_take (i := 3) (oi := { dst := some 52, op := Go.Op.load 26 (Go.Operand.tmp 51), type := 26, pos := _, after := #[{ on := 2, ground := Go.Ground.data }], guard := none }) rfl (by kernel_rfl) (by kernel_rfl) (by kernel_rfl) (fun _ _ _ h => h) (yieldsIf_load_mid (by rfl) 26 (.tmp 51) rfl (w.heap.size) (q * 16) rfl (KL) _ (fun _ h => h.2.1) hu rfl hiK) hHeld ?_
            try simp only [Act.put, List.setIfInBounds_toArray, List.set_cons_zero, List.set_cons_succ]
            refine wpAnyH_ready (rs := [4]) (by kernel_rfl) (by simp) ?_
            refine AllReadyH.cons (o := { dst := some 53, op := Go.Op.call { callee := Go.Callee.value (Go.Operand.func 37), args := #[Go.Operand.tmp 49, Go.Operand.tmp 52], argTypes := #[26, 26] }, type := 26, pos := _, after := #[{ on := 0, ground := Go.Ground.data }, { on := 3, ground := Go.Ground.data }], guard := none }) rfl (fun K hK => ?_) AllReadyH.nil
            rw [if_pos (by rfl)]
            go_wp2_with fail
            refine (hx _).mono ?_
            rintro e w4 ⟨rfl, hb4⟩
            have hHeld4 := SS.below hHeld hs1 hb4
            clear hb4
            refine hK.out _ _ hHeld4 (fun _ => ?_)
            clear hK K
            try simp only [Act.put, List.setIfInBounds_toArray, List.set_cons_zero, List.set_cons_succ]
            refine wpAnyH_ready (rs := [5]) (by kernel_rfl) (by simp) ?_
            refine AllReadyH.cons (o := { dst := none, op := Go.Op.store 26 (Go.Operand.tmp 7) (Go.Operand.tmp 53), type := 0, pos := _, after := #[{ on := 4, ground := Go.Ground.data }, { on := 4, ground := Go.Ground.chain }, { on := 0, ground := Go.Ground.phase }, { on := 1, ground := Go.Ground.phase }, { on := 2, ground := Go.Ground.phase }, { on := 3, ground := Go.Ground.phase }, { on := 4, ground := Go.Ground.phase }], guard := none }) rfl (fun K hK => ?_) AllReadyH.nil
            rw [if_pos (by rfl)]
            obtain ⟨lx, hlx, hEx⟩ := hHeld4.2.2.1
            refine wp_store_row 26 _ _ rfl w1.heap.size NA rfl rfl 26 _ hEx.2.2.2.1 HIN.out (by rw [HN8.out]; simp [hlx]) HN1.out ?_
            refine hK.out _ _ (SS.set hHeld4 hs1 (by omega) NA _ HNL.out HNA.out) (fun _ => ?_)
            clear hK K
            try simp only [Act.put, List.setIfInBounds_toArray, List.set_cons_zero, List.set_cons_succ]
            refine wpAnyH_done (by kernel_rfl) ?_ _
            have HFIN : Hid (EN w KA TA w1.heap.size (encR ks t s q) (w4.setRow w1.heap.size NA)) := EN.set hEx hs1 NA HNA.out
            have hsz4 : w1.heap.size + 1 ≤ w4.heap.size := hHeld4.2.2.2.2
            clear hHeld hHeld4 hEx hlx
            go_wp2
            go_roundw
            case rel => exact ⟨q + 1, by omega, by omega, by go_num, by rw [Nat.add_sub_cancel]; exact HFIN.out, by simpa using hsz4⟩
            case measure => simp [intOf]; omega
          · have hqJ : ¬ (q : Int) < 10 := by omega
            have hnx : encR ks t s q = xrA T (keyA ks q) := by rw [HENC.out]; unfold rndA; rw [if_neg hq9, ← HTE.out]
            have HNX : Hid _ := hnx
            have HFF : Hid (EN w KA TA w1.heap.size l wr ∧ wr.heap[w2.heap.size]? = some (.cells (T.map B8).toArray 26 (0, 0))) := ⟨hEN, hb2⟩
            clear hEN hb2 hnx hc4
            obtain ⟨ML, hML⟩ : ∃ ML, ML = List.map B8 T := ⟨_, rfl⟩
            obtain ⟨KL, hKL⟩ : ∃ KL, KL = (keyA ks q).map B8 := ⟨_, rfl⟩
            obtain ⟨NA, hNA⟩ : ∃ NA, NA = ((encR ks t s q).map B8).toArray := ⟨_, rfl⟩
            have hNl := HEL.out q (by omega)
            have hx := fun W => xor_any T (keyA ks q) W HTL16.out (HK0.out q (by omega))
            rw [← HNX.out, ← hNA, ← hML, ← hKL] at hx
            have hiM : (Try.prog.info? 26).map (·.size) = some ML.length := by rw [hML, List.length_map, HTL16.out]; kernel_rfl
            have hiK : (Try.prog.info? 26).map (·.size) = some KL.length := by rw [hKL]; exact HKI.out q (by omega)
            have hiN : (Try.prog.info? 26).map (·.size) = some NA.size := by rw [hNA]; exact HI16.out _ hNl
            have hN1 : NA.all (·.oneCell') = true := by rw [hNA]; exact B8_onea _
            have hN8 : NA.size = 16 := by rw [hNA]; simp [hNl]
            have hu := Try.underlying26
            have HSS : Hid (SS w KA TA w1.heap.size w2.heap.size ML KL (q * 16) (World.drew (wr))) := by
              have := SS.of (q := q) (w := w) (ks := ks) (TA := TA) (g := w1.heap.size) (b := w2.heap.size) (l := l) (M := T) (x := wr) (by rw [← HKA.out]; exact (HFF.out).1) HLL.out (HFF.out).2
              rw [← HKA.out, ← hML, ← hKL] at this
              exact this
            have HNA : Hid _ := hNA
            have HNL : Hid _ := hNl
            have HIN : Hid _ := hiN
            have HN1 : Hid _ := hN1
            have HN8 : Hid _ := hN8
            clear hML hKL hNA hNl hiN hN1 hN8
            go_wp2
            refine wp_region_held_drew (S := SS w KA TA w1.heap.size w2.heap.size ML KL (q * 16)) (by kernel_rfl) HSS.out (fun hHeld => ?_)
            refine wpAnyH_take (i := 0) (oi := { dst := some 49, op := Go.Op.load 26 (Go.Operand.tmp 9), type := 26, pos := _, after := #[], guard := none }) rfl (by kernel_rfl) (by kernel_rfl) (by kernel_rfl) (fun _ _ _ h => h) (yieldsIf_load_mid (by rfl) 26 (.tmp 9) rfl (w2.heap.size) (0) rfl (ML) _ (fun _ h => h.1) hu rfl hiM) hHeld ?_
            try simp only [Act.put, List.setIfInBounds_toArray, List.set_cons_zero, List.set_cons_succ]
            refine wpAnyH_take (i := 1) (oi := { dst := some 50, op := Go.Op.move (Go.Operand.tmp 8), type := 3, pos := _, after := #[], guard := none }) (v := .int .i64 (q : Int)) rfl (by kernel_rfl) (by kernel_rfl) (by kernel_rfl) (fun _ _ _ h => h) (Or.inl ⟨by rfl, fun w' hw' => ?_⟩) hHeld ?_
            · first | (go_simp; done) | (go_simp; rfl)
            try simp only [Act.put, List.setIfInBounds_toArray, List.set_cons_zero, List.set_cons_succ]
            refine wpAnyH_take (i := 2) (oi := { dst := some 51, op := Go.Op.indexAddr 29 (Go.Operand.tmp 3) (Go.Operand.tmp 50), type := 0, pos := _, after := #[{ on := 1, ground := Go.Ground.data }], guard := none }) (v := .pointer (some ⟨w.heap.size, q * 16, none⟩)) rfl (by kernel_rfl) (by kernel_rfl) (by kernel_rfl) (fun _ _ _ h => h) (Or.inl ⟨by rfl, fun w' hw' => ?_⟩) hHeld ?_
            · (go_simp; intro hbad; omega)
            try simp only [Act.put, List.setIfInBounds_toArray, List.set_cons_zero, List.set_cons_succ]
            refine wpAnyH_take (i := 3) (oi := { dst := some 52, op := Go.Op.load 26 (Go.Operand.tmp 51), type := 26, pos := _, after := #[{ on := 2, ground := Go.Ground.data }], guard := none }) rfl (by kernel_rfl) (by kernel_rfl) (by kernel_rfl) (fun _ _ _ h => h) (yieldsIf_load_mid (by rfl) 26 (.tmp 51) rfl (w.heap.size) (q * 16) rfl (KL) _ (fun _ h => h.2.1) hu rfl hiK) hHeld ?_
            try simp only [Act.put, List.setIfInBounds_toArray, List.set_cons_zero, List.set_cons_succ]
            refine wpAnyH_ready (rs := [4]) (by kernel_rfl) (by simp) ?_
            refine AllReadyH.cons (o := { dst := some 53, op := Go.Op.call { callee := Go.Callee.value (Go.Operand.func 37), args := #[Go.Operand.tmp 49, Go.Operand.tmp 52], argTypes := #[26, 26] }, type := 26, pos := _, after := #[{ on := 0, ground := Go.Ground.data }, { on := 3, ground := Go.Ground.data }], guard := none }) rfl (fun K hK => ?_) AllReadyH.nil
            rw [if_pos (by rfl)]
            go_wp2_with fail
            refine (hx _).mono ?_
            rintro e w4 ⟨rfl, hb4⟩
            have hHeld4 := SS.below hHeld hs1 hb4
            clear hb4
            refine hK.out _ _ hHeld4 (fun _ => ?_)
            clear hK K
            try simp only [Act.put, List.setIfInBounds_toArray, List.set_cons_zero, List.set_cons_succ]
            refine wpAnyH_ready (rs := [5]) (by kernel_rfl) (by simp) ?_
            refine AllReadyH.cons (o := { dst := none, op := Go.Op.store 26 (Go.Operand.tmp 7) (Go.Operand.tmp 53), type := 0, pos := _, after := #[{ on := 4, ground := Go.Ground.data }, { on := 4, ground := Go.Ground.chain }, { on := 0, ground := Go.Ground.phase }, { on := 1, ground := Go.Ground.phase }, { on := 2, ground := Go.Ground.phase }, { on := 3, ground := Go.Ground.phase }, { on := 4, ground := Go.Ground.phase }], guard := none }) rfl (fun K hK => ?_) AllReadyH.nil
            rw [if_pos (by rfl)]
            obtain ⟨lx, hlx, hEx⟩ := hHeld4.2.2.1
            refine wp_store_row 26 _ _ rfl w1.heap.size NA rfl rfl 26 _ hEx.2.2.2.1 HIN.out (by rw [HN8.out]; simp [hlx]) HN1.out ?_
            refine hK.out _ _ (SS.set hHeld4 hs1 (by omega) NA _ HNL.out HNA.out) (fun _ => ?_)
            clear hK K
            try simp only [Act.put, List.setIfInBounds_toArray, List.set_cons_zero, List.set_cons_succ]
            refine wpAnyH_done (by kernel_rfl) ?_ _
            have HFIN : Hid (EN w KA TA w1.heap.size (encR ks t s q) (w4.setRow w1.heap.size NA)) := EN.set hEx hs1 NA HNA.out
            have hsz4 : w1.heap.size + 1 ≤ w4.heap.size := hHeld4.2.2.2.2
            clear hHeld hHeld4 hEx hlx
            go_wp2
            go_roundw
            case rel => exact ⟨q + 1, by omega, by omega, by go_num, by rw [Nat.add_sub_cancel]; exact HFIN.out, by simpa using hsz4⟩
            case measure => simp [intOf]; omega
    · have hq11' : q - 1 = 10 := by omega
      have hqI : ¬ (q : Int) ≤ 10 := by omega
      rw [hq11'] at hEN hLL
      obtain ⟨h1, h2, ⟨Z, hZ, h3⟩, h4, h5⟩ := hEN
      obtain ⟨RS, hRS⟩ : ∃ RS, RS = ((encA ks t s).map B8).toArray := ⟨_, rfl⟩
      have hRS' : RS = ((encR ks t s 10).map B8).toArray := hRS
      have hr8 : RS.size = 16 := by rw [hRS']; simp [hLL]
      have hri : (Try.prog.info? 26).map (·.size) = some RS.size := by rw [hr8]; kernel_rfl
      have hr1 : RS.all (·.oneCell') = true := by rw [hRS']; exact B8_onea _
      rw [← hRS'] at h4
      have HT' : Hid _ := h4
      have HR : Hid _ := h3
      have HRS : Hid _ := hRS
      have HRI : Hid _ := hri
      have HR1 : Hid _ := hr1
      have HR8 : Hid _ := hZ.trans hr8.symm
      clear h1 h2 h3 h4 hri hr1 hr8 hRS hRS' hZ hq11' hLL HENC
      go_wp2_with (first
        | (refine wpList_load_row rfl 26 _ rfl w1.heap.size rfl 26 _ (0, 0) _ HT'.out Try.underlying26 rfl HRI.out ?_)
        | (refine wpList_store_row rfl 26 _ _ rfl (w.heap.size + 1 + 1 + 1) _ rfl rfl 26 _ HR.out HRI.out HR8.out HR1.out ?_))
      refine bodyPost_ret (v := .agg RS) ?_ rfl ⟨by rw [HRS.out], below_setRow h5 (by omega) _⟩
      exact results_cell_row Try.results22 _ _ (w.heap.size + 1 + 1 + 1) 26 _ (0, 0) _ rfl (setRow_heap _ _ _ _ _ _ HR.out) Try.underlying26 rfl HRI.out

end Go.Proofs.Ytjohckgdbbhpdaa
