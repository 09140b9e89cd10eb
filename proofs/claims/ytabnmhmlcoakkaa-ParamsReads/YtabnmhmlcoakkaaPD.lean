/- params: RealmBytes. -/
import Derived.Test.YtabnmhmlcoakkaaPB
import Derived.Lib.SmallJoins
set_option linter.unusedVariables false
set_option linter.unusedSimpArgs false
namespace Go.Proofs.Ytabnmhmlcoakkaa.PC
open Go.RowKit

/-- A realm's bytes, ahead of the noughts. -/
def rbP (V : List UInt8) (n : Nat) : List UInt8 := [114, 101, 97, 108, 109, 0, 0, 0] ++ V ++ W1.le 8 n
def rbL (V : List UInt8) (n : Nat) : List UInt8 := pd (rbP V n)
theorem rbP_len (V : List UInt8) (n : Nat) (h : V.length = 32) : (rbP V n).length = 48 := by unfold rbP; simp [h, W1.le_length]
theorem rbL_len (V : List UInt8) (n : Nat) (h : V.length = 32) : (rbL V n).length = 128 := pd_len _ (by rw [rbP_len V n h]; decide)
theorem lay_to {w : World} {pb rb gb cb ab : Nat} {tp : TypeId} {PL ZL : List Value} {P : List UInt8} {W : World} (h : LY w pb rb gb cb ab tp PL ZL P W) (v : Value) (l : List UInt8) (s : Nat) (P' : List UInt8) (hP : P ++ l ++ List.replicate (s - l.length) 0 = P') (hv : HB W v l) (hl : l.length ≤ s) (hs : P.length + s ≤ 128) (h1 : 1 ≤ s) :
    Calls Try.prog 32 #[v, .int .i64 (s : Int), .pointer (some ⟨cb, 0, none⟩), .pointer (some ⟨ab, 0, none⟩)] W fun e W' => e = .returned (.tuple #[]) ∧ LY w pb rb gb cb ab tp PL ZL P' W' := by
  rw [← hP]; exact lay_any h v l s hv hl hs h1
/-- Bytes in a block of their own. -/
theorem hb_new (W : World) (l : List UInt8) (A : Array Value) (t : TypeId) (fr : Nat × Nat) (k : Nat) (hk : k = l.length) (hA : A = (l.map B8).toArray) (hl : l.length ≤ 1099511627776) : HB (W.alloc (.cells A t fr)) (.slice (some ⟨W.heap.size, 0, none⟩) k k) l :=
  hb_range k hk (by omega) (by unfold maxLen; omega) (rangeAt_row (by rw [heap_alloc_new, hA]))
/-- The start: parameters and what is handed back. -/
structure L0 (w : World) (tp : TypeId) (PL ZL : List Value) (W : World) : Prop where
  bel : Below w.heap.size w W
  par : W.heap[w.heap.size]? = some (.cells PL.toArray tp (0, 0))
  res : W.heap[w.heap.size + 1]? = some (.cells ZL.toArray 28 (0, 0))
theorem L0.start (w : World) (tp : TypeId) (PL ZL : List Value) : L0 w tp PL ZL ((w.alloc (.cells PL.toArray tp (0, 0))).alloc (.cells ZL.toArray 28 (0, 0))) :=
  ⟨((Below.refl _ _).alloc (Nat.le_refl _) _).alloc (by simp) _, (Below.heap_alloc _ _ _ (by simp)).trans (heap_alloc_new _ _), heap_at _ _ _ (by simp)⟩
theorem L0.below {w : World} {tp : TypeId} {PL ZL : List Value} {W W' : World} (h : L0 w tp PL ZL W) (hb : Below W.heap.size W W') : L0 w tp PL ZL W' := by
  obtain ⟨h1, h2, h3⟩ := h
  exact ⟨h1.trans (hb.mono h1.size), (hb.block _ (row_lt h2)).trans h2, (hb.block _ (row_lt h3)).trans h3⟩
theorem L0.ly {w : World} {tp : TypeId} {PL ZL : List Value} {W : World} (h : L0 w tp PL ZL W) (hZ : ZL = Z128.map B8) :
    LY w w.heap.size (w.heap.size + 1) W.heap.size (W.heap.size + 1) (W.heap.size + 1 + 1) tp PL ZL [] (((W.alloc (.cells ZL.toArray 28 (0, 0))).alloc (.cells #[.pointer (some ⟨W.heap.size, 0, none⟩)] 55 (0, 0))).alloc (.cells #[.int .i64 0] 3 (0, 0))) := by
  obtain ⟨h1, h2, h3⟩ := h
  have l3 := row_lt h3
  have k : ∀ j, j < W.heap.size → (((W.alloc (.cells ZL.toArray 28 (0, 0))).alloc (.cells #[.pointer (some ⟨W.heap.size, 0, none⟩)] 55 (0, 0))).alloc (.cells #[.int .i64 0] 3 (0, 0))).heap[j]? = W.heap[j]? := fun j hj => by
    rw [Below.heap_alloc _ _ _ (by simp; omega), Below.heap_alloc _ _ _ (by simp; omega), Below.heap_alloc _ _ _ hj]
  refine ⟨((h1.alloc (by omega) _).alloc (by simp; omega) _).alloc (by simp; omega) _, (k _ (by omega)).trans h2, (k _ (by omega)).trans h3, ?_, ?_, ?_, Nat.le_refl _, by omega, by omega, by omega, by omega⟩
  · rw [pd_nil, ← hZ, Below.heap_alloc _ _ _ (by simp; omega), Below.heap_alloc _ _ _ (by simp)]; exact heap_alloc_new _ _
  · rw [Below.heap_alloc _ _ _ (by simp)]; exact heap_at _ _ _ (by simp)
  · exact heap_at _ _ _ (by simp)
set_option maxHeartbeats 1000000 in
theorem rb_bad (V : List UInt8) (n : Nat) (w : World) (hV : V.length = 32) (hn : n < 18446744073709551616) (hm : mayR n = false) :
    Calls Try.prog 8 #[.agg (rpL V n).toArray] w fun e w' => e = .returned (.tuple #[.agg (Z128.map B8).toArray, .int .i64 2]) ∧ Below w.heap.size w w' := by
  have hM := fun W => pmayR_any V n W hV hn
  rw [hm] at hM
  have hpl := rpL_len V n hV
  generalize rpL V n = PL at *
  have HPI : Hid _ := info33 PL hpl
  have hzg := fun W => zero_gr W
  obtain ⟨ZL, hZL⟩ : ∃ L, L = Z128.map B8 := ⟨_, rfl⟩
  rw [← hZL] at hzg
  have HBG : Hid (∀ W, (Instr.build 28 #[]).run Try.prog W = .ok (.agg ZL.toArray) W) := fun W => by rw [hZL]; exact build_gr W
  have hzl : ZL.length = 128 := by rw [hZL, List.length_map, z128_len]
  have HGI : Hid ((Try.prog.info? 28).map (·.size) = some ZL.length) := info128 ZL hzl
  have HGA : Hid ((Try.prog.info? 28).map (·.size) = some ZL.toArray.size) := info128a _ (by simpa using hzl)
  have HG1 : Hid (ZL.toArray.all (·.oneCell') = true) := by show _ = _; rw [hZL]; exact B8_onea _
  have HGL : Hid _ := hzl
  have HZL : Hid _ := hZL
  clear hZL hzl
  rw [← HZL.out]
  have HL0 : Hid _ := L0.start w 26 PL ZL
  have HPR : Hid _ := rangeAt_row HL0.out.par
  clear hm hpl
  go_enter Try.func8, Try.ntmps8
  go_wp2_with (refine wpList_load_mid rfl 26 _ rfl w.heap.size 0 rfl PL _ HPR.out Try.underlying26 rfl HPI.out ?_)
  refine Calls.mono (hM _) ?_
  rintro e w1 ⟨rfl, hb1⟩
  have HL1 : Hid _ := HL0.out.below hb1
  have HR1 : Hid _ := HL1.out.res
  clear hb1 HL0 HPR
  go_wp2_with (first
    | (refine wpList_build rfl 28 #[] rfl #[] (.agg ZL.toArray) (by simp) (HBG.out _) ?_)
    | (refine wpList_store_row rfl 28 _ _ rfl (w.heap.size + 1) ZL.toArray rfl rfl 28 ZL.toArray HR1.out HGA.out rfl HG1.out ?_))
  refine bodyPost_ret (v := .tuple #[.agg ZL.toArray, .int .i64 2]) (results2 Try.results8 _ _ (w.heap.size + 1) 28 ZL (0, 0) _ rfl rfl (setRow_heap _ _ _ _ _ _ HR1.out) Try.underlying28 rfl HGI.out) rfl ⟨rfl, below_setRow HL1.out.bel (by omega) _⟩
set_option maxHeartbeats 1000000 in
theorem rb_ok (V : List UInt8) (n : Nat) (w : World) (hV : V.length = 32) (hn : n < 18446744073709551616) (hm : mayR n = true) :
    Calls Try.prog 8 #[.agg (rpL V n).toArray] w fun e w' => e = .returned (.tuple #[.agg ((rbL V n).map B8).toArray, .int .i64 0]) ∧ Below w.heap.size w w' := by
  have hM := fun W => pmayR_any V n W hV hn
  rw [hm] at hM
  have hpl := rpL_len V n hV
  have HVP : Hid (((rpL V n).drop 0).take 32 = V.map B8) := rpL_v V n hV
  have HNP : Hid ((rpL V n)[32]? = some (.int .u64 (n : Int))) := rpL_n V n hV
  generalize rpL V n = PL at *
  have HPI : Hid _ := info33 PL hpl
  have hzg := fun W => zero_gr W
  obtain ⟨ZL, hZL⟩ : ∃ L, L = Z128.map B8 := ⟨_, rfl⟩
  rw [← hZL] at hzg
  have HBG : Hid (∀ W, (Instr.build 28 #[]).run Try.prog W = .ok (.agg ZL.toArray) W) := fun W => by rw [hZL]; exact build_gr W
  have hzl : ZL.length = 128 := by rw [hZL, List.length_map, z128_len]
  have HGI : Hid ((Try.prog.info? 28).map (·.size) = some ZL.length) := info128 ZL hzl
  have HGA : Hid ((Try.prog.info? 28).map (·.size) = some ZL.toArray.size) := info128a _ (by simpa using hzl)
  have HG1 : Hid (ZL.toArray.all (·.oneCell') = true) := by show _ = _; rw [hZL]; exact B8_onea _
  have HGL : Hid _ := hzl
  have HZL : Hid _ := hZL
  clear hZL hzl
  have HL0 : Hid _ := L0.start w 26 PL ZL
  have HPR : Hid _ := rangeAt_row HL0.out.par
  have hnum := fun W => number_pc n W hn
  obtain ⟨GL, hGL⟩ : ∃ L, L = (rbL V n).map B8 := ⟨_, rfl⟩
  have hgl : GL.length = 128 := by rw [hGL, List.length_map, rbL_len V n hV]
  have HII : Hid _ := info128 GL hgl
  have HIA : Hid _ := info128a GL.toArray (by simpa using hgl)
  have HI1 : Hid (GL.toArray.all (·.oneCell') = true) := by show _ = _; rw [hGL]; exact B8_onea _
  have HIS : Hid (ZL.toArray.size = GL.toArray.size) := by show _ = _; simp [HGL.out, hgl]
  rw [← hGL]
  have HGLL : Hid _ := hGL
  clear hGL hgl
  clear hm hpl
  go_enter Try.func8, Try.ntmps8
  go_wp2_with (refine wpList_load_mid rfl 26 _ rfl w.heap.size 0 rfl PL _ HPR.out Try.underlying26 rfl HPI.out ?_)
  refine Calls.mono (hM _) ?_
  rintro e w1 ⟨rfl, hb1⟩
  have HL1 : Hid _ := HL0.out.below hb1
  have HLY : Hid _ := HL1.out.ly HZL.out
  clear hb1 HL0 HPR hM
  go_wp2_with fail
  refine Calls.mono (layer_any w1.heap.size _) ?_
  rintro e w2 ⟨rfl, hw2⟩
  have HLY2 : Hid (LY w w.heap.size (w.heap.size + 1) w1.heap.size (w1.heap.size + 1) (w1.heap.size + 1 + 1) 26 PL ZL [] w2) := by rw [hw2]; exact HLY.out
  clear HLY hw2
  have hcv := Go.Joins.run_convert_bytes_const_at w2 56 5 #[.int .u8 114, .int .u8 101, .int .u8 97, .int .u8 108, .int .u8 109] 5 5 w2.heap.size rfl Try.underlying56 Try.underlying5
  have HB2 : Hid (HB (w2.alloc (.cells #[.int .u8 114, .int .u8 101, .int .u8 97, .int .u8 108, .int .u8 109] 5 (5, 6))) (.slice (some ⟨w2.heap.size, 0, none⟩) 5 5) [114, 101, 97, 108, 109]) := hb_new w2 _ _ _ _ 5 rfl rfl (by decide)
  have HLY3 : Hid _ := HLY2.out.below ((Below.refl _ _).alloc (Nat.le_refl _) (.cells #[.int .u8 114, .int .u8 101, .int .u8 97, .int .u8 108, .int .u8 109] 5 (5, 6)))
  clear HLY2
  go_wp2_with fail
  refine Calls.mono (lay_to HLY3.out _ _ 8 [114, 101, 97, 108, 109, 0, 0, 0] rfl HB2.out (by decide) (by decide) (by decide)) ?_
  rintro e w3 ⟨rfl, hw3⟩
  have HLY4 : Hid _ := hw3
  have hsd := fun W => slice_dg W w.heap.size 0
  have HBV : Hid (HB w3 (.slice (some ⟨w.heap.size, 0, none⟩) 32 32) V) := by
    have h0 := rangeAt_part (rangeAt_row hw3.par) 0 32
    rw [HVP.out] at h0
    exact hb_range 32 hV.symm (by omega) (by unfold maxLen; omega) h0
  clear hw3 HLY3 HB2
  go_wp2_with fail
  refine Calls.mono (lay_to HLY4.out _ _ 32 ([114, 101, 97, 108, 109, 0, 0, 0] ++ V) (by rw [hV]; simp) HBV.out (by omega) (by decide) (by decide)) ?_
  rintro e w4 ⟨rfl, hw4⟩
  have HLY5 : Hid _ := hw4
  have hcn : w4.cell? ⟨w.heap.size, 32, none⟩ = some (.int .u64 (n : Int)) := by
    rw [cell_of_row _ _ 32 _ _ _ hw4.par, List.getElem?_toArray]; exact HNP.out
  clear hw4 HLY4 HBV
  go_wp2_with fail
  refine Calls.mono (hnum _) ?_
  rintro e w5 ⟨rfl, hf5, hb5⟩
  have HLY6 : Hid _ := HLY5.out.below hb5
  have HF5 : Hid _ := hf5.hb
  clear hf5 hb5 HLY5 hnum hcn
  go_wp2_with fail
  refine Calls.mono (lay_to HLY6.out _ _ 8 (rbP V n) (by rw [W1.le_length]; simp [rbP]) HF5.out (by rw [W1.le_length]; decide) (by simp [hV]) (by decide)) ?_
  rintro e w6 ⟨rfl, hw6⟩
  have HLY7 : Hid _ := hw6
  clear hw6 HLY6 HF5
  have HGR : Hid (w6.rangeAt w1.heap.size 0 GL) := by rw [HGLL.out]; exact rangeAt_row HLY7.out.gr
  have HRS : Hid _ := HLY7.out.res
  go_wp2_with (first
    | (refine wpList_load_mid rfl 28 _ rfl w1.heap.size 0 rfl GL _ HGR.out Try.underlying28 rfl HII.out ?_)
    | (refine wpList_store_row rfl 28 _ _ rfl (w.heap.size + 1) GL.toArray rfl rfl 28 ZL.toArray HRS.out HIA.out HIS.out HI1.out ?_))
  refine bodyPost_ret (v := .tuple #[.agg GL.toArray, .int .i64 0]) (results2 Try.results8 _ _ (w.heap.size + 1) 28 GL (0, 0) _ rfl rfl (setRow_heap _ _ _ _ _ _ HRS.out) Try.underlying28 rfl HII.out) rfl ⟨rfl, below_setRow HLY7.out.bel (by omega) _⟩
end Go.Proofs.Ytabnmhmlcoakkaa.PC
