/- Both memories side by side; acts; contract of the statements' granule. -/
import Derived.Test.YtikchlmfklbojaaMK
set_option linter.unusedVariables false
set_option linter.unusedSimpArgs false
namespace Go.Proofs.Ytikchlmfklbojaa.MC
open Go.RowKit

/-- All blocks stay but those of a set. -/
structure KS (S : Nat → Prop) (w w' : World) : Prop where
  os : w'.os = w.os
  tape : w'.tape = w.tape
  output : w'.output = w.output
  size : w.heap.size ≤ w'.heap.size
  blk : ∀ j, j < w.heap.size → ¬ S j → w'.heap[j]? = w.heap[j]?
theorem KS.refl (S : Nat → Prop) (w : World) : KS S w w := ⟨rfl, rfl, rfl, Nat.le_refl _, fun _ _ _ => rfl⟩
theorem KS.trans {S : Nat → Prop} {a b c : World} (h : KS S a b) (k : KS S b c) : KS S a c :=
  ⟨k.os.trans h.os, k.tape.trans h.tape, k.output.trans h.output, Nat.le_trans h.size k.size, fun j hj hS => (k.blk j (Nat.lt_of_lt_of_le hj h.size) hS).trans (h.blk j hj hS)⟩
theorem KS.kb {S : Nat → Prop} {b : Nat} {w w' : World} (h : KB b w w') (hb : S b) : KS S w w' :=
  ⟨h.1.os, h.1.tape, h.1.output, h.1.size, fun j hj hS => h.2 j hj (fun e => hS (e ▸ hb))⟩
theorem KS.of {S : Nat → Prop} {w w' : World} (h : Below w.heap.size w w') : KS S w w' := ⟨h.os, h.tape, h.output, h.size, fun j hj _ => h.block j hj⟩
theorem KS.bel {S : Nat → Prop} {B : Nat} {w w' : World} (h : KS S w w') (hB : B ≤ w.heap.size) (hS : ∀ j, S j → B ≤ j) : Below B w w' :=
  ⟨h.os, h.tape, h.output, h.size, fun j hj => h.blk j (by omega) (fun hs => by have := hS j hs; omega)⟩

/-- Both memories, with the same bytes. -/
structure JM (B : Nat) (w : World) (mb gb rb bb n : Nat) (l : List UInt8) : Prop where
  pm : PM w mb gb n l
  rm : RM w rb bb n l
  d1 : gb ≠ rb
  d2 : gb ≠ bb
  d3 : mb ≠ bb
  low : B ≤ w.heap.size
  bg : B ≤ gb
  bbb : B ≤ bb
abbrev SJ (gb bb : Nat) : Nat → Prop := fun j => j = gb ∨ j = bb
theorem JM.below {B : Nat} {w w' : World} {mb gb rb bb n : Nat} {l : List UInt8} (h : JM B w mb gb rb bb n l) (hb : Below w.heap.size w w') : JM B w' mb gb rb bb n l :=
  ⟨h.pm.below hb, h.rm.below hb, h.d1, h.d2, h.d3, Nat.le_trans h.low hb.size, h.bg, h.bbb⟩
theorem JM.bel {B : Nat} {w w' : World} {mb gb rb bb n : Nat} {l : List UInt8} (h : JM B w mb gb rb bb n l) (hk : KS (SJ gb bb) w w') : Below B w w' :=
  hk.bel h.low (fun j hj => by rcases hj with rfl | rfl; exact h.bg; exact h.bbb)

/-- An act. -/
structure Ac where
  kind : Int
  g : Int
  addr : Nat
  word : Nat
  bytes : List UInt8
def acL (a : Ac) (v : Value) : List Value := [.int .i64 a.kind, .int .i64 a.g, .int .u64 (a.addr : Int), .int .u64 (a.word : Int), v]
structure Ac.ok (a : Ac) : Prop where
  addr : a.addr < 18446744073709551616
  word : a.word < 18446744073709551616
  len : a.bytes.length ≤ 9223372036854775807
def AC (W : World) (ab : Nat) (a : Ac) (v : Value) : Prop := W.heap[ab]? = some (.cells (acL a v).toArray 34 (0, 0))
theorem AC.facts {W : World} {ab : Nat} {a : Ac} {v : Value} (h : AC W ab a v) : W.cell? ⟨ab, 0, none⟩ = some (.int .i64 a.kind) ∧ W.cell? ⟨ab, 1, none⟩ = some (.int .i64 a.g) ∧ W.cell? ⟨ab, 2, none⟩ = some (.int .u64 (a.addr : Int)) ∧ W.cell? ⟨ab, 3, none⟩ = some (.int .u64 (a.word : Int)) ∧ W.cell? ⟨ab, 4, none⟩ = some v :=
  ⟨(cell_of_row _ _ 0 _ _ _ h).trans rfl, (cell_of_row _ _ 1 _ _ _ h).trans rfl, (cell_of_row _ _ 2 _ _ _ h).trans rfl, (cell_of_row _ _ 3 _ _ _ h).trans rfl, (cell_of_row _ _ 4 _ _ _ h).trans rfl⟩
/-- Bytes as a granule. -/
def gr (b : List UInt8) : List UInt8 := splice Z128 0 (b.take 128)
theorem gr_len (b : List UInt8) : (gr b).length = 128 := by
  unfold gr
  rw [splice_len _ _ _ (by rw [List.length_take, z128_len]; omega), z128_len]
/-- What an act does to the bytes of n granules. -/
def doL (n : Nat) (l : List UInt8) (a : Ac) : List UInt8 :=
  if a.kind = 1 then (if wF n a.addr = 0 then splice l a.addr (W1.le 8 a.word) else l)
  else if a.kind = 2 then (if wIn n a.addr a.bytes.length = true then splice l a.addr a.bytes else l)
  else if a.kind = 3 then (if gF n a.g = 0 then splice l (128 * a.g.toNat) (gr a.bytes) else l)
  else if a.kind = 4 then (if gF n a.g = 0 then splice l (128 * a.g.toNat) Z128 else l)
  else l
theorem wIn_le {n a m : Nat} (h : wIn n a m = true) (hm : 0 < m) : a + m ≤ 128 * n := by
  unfold wIn at h
  simp only [decide_eq_true_eq] at h
  omega
theorem wF_zero {n a : Nat} (h : wF n a = 0) : a % 8 = 0 ∧ wIn n a 8 = true := by
  unfold wF at h
  by_cases h8 : a % 8 = 0
  · rw [if_pos h8] at h
    by_cases hw : wIn n a 8 = true
    · exact ⟨h8, hw⟩
    · rw [if_neg hw] at h; omega
  · rw [if_neg h8] at h; omega
theorem wF_pos {n a : Nat} (h : wF n a ≠ 0) : (a % 8 ≠ 0 ∧ wF n a = 2) ∨ (a % 8 = 0 ∧ wIn n a 8 = false ∧ wF n a = 6) := by
  unfold wF at h ⊢
  by_cases h8 : a % 8 = 0
  · rw [if_pos h8] at h ⊢
    by_cases hw : wIn n a 8 = true
    · rw [if_pos hw] at h; exact absurd rfl h
    · rw [if_neg hw]; exact .inr ⟨h8, by simpa using hw, rfl⟩
  · rw [if_neg h8]; exact .inl ⟨h8, rfl⟩
theorem gF_zero {n : Nat} {g : Int} (h : gF n g = 0) : ∃ k : Nat, g = (k : Int) ∧ k < n := by
  unfold gF at h
  by_cases hg : g < 0 ∨ (n : Int) ≤ g
  · rw [if_pos hg] at h; omega
  · exact ⟨g.toNat, by omega, by omega⟩
theorem gF_pos {n : Nat} {g : Int} (h : gF n g ≠ 0) : gF n g = 2 ∧ (g < 0 ∨ (n : Int) ≤ g) := by
  unfold gF at h ⊢
  by_cases hg : g < 0 ∨ (n : Int) ≤ g
  · exact ⟨if_pos hg, hg⟩
  · rw [if_neg hg] at h; exact absurd rfl h
theorem wpList_copy_seg {ops : Array Oper} {rest : List Oper} {op : Oper} {a : Act} {w : World} {Q : Exit → Act → World → Prop} (hgd : op.guard = none) (d s : Operand) (ho : op.op = .call { callee := .builtin .copy, args := #[d, s], argTypes := #[32, 32] })
    (b o dLen dCap : Nat) (sp : Option Addr) (sLen sCap : Nat) (hd : a.eval d = .slice (some ⟨b, o, none⟩) dLen dCap) (hs : a.eval s = .slice sp sLen sCap) (cur : List Value) (t : TypeId) (hg : w.heap[b]? = some (.cells cur.toArray t (0, 0)))
    (cs : List Value) (hn : cs.length = Nat.min sLen dLen) (hpos : 0 < cs.length → ∃ ad, sp = some ad ∧ ∀ j v, cs[j]? = some v → w.cell? (ad.add j) = some v) (hfit : o + cs.length ≤ cur.length) (h1 : ∀ v ∈ cs, v.oneCell' = true)
    (h : ∀ W', Hid (W'.heap[b]? = some (.cells (splice cur o cs).toArray t (0, 0))) → Hid (∀ j, j ≠ b → W'.heap[j]? = w.heap[j]?) → Hid (Below b w W') → wpList Try.prog ops Q rest (a.put op.dst (goInt cs.length)) W') : wpList Try.prog ops Q (op :: rest) a w :=
  wpList_plain hgd fun _ hK => wp_copy_seg d s ho b o dLen dCap sp sLen sCap hd hs cur t hg cs hn hpos hfit h1 (hK _ _ (h _ (setRow_heap _ _ _ _ _ _ hg) (fun j hj => setRow_other _ _ _ _ hj) (below_setRow (Below.refl _ _) (Nat.le_refl _) _)))
/-- A slice of bytes, whatever it is. -/
theorem hb_any {w : World} {v : Value} {l : List UInt8} (h : HB w v l) : ∃ p cap, v = .slice p l.length cap ∧ (0 < l.length → ∃ b o, p = some ⟨b, o, none⟩ ∧ w.rangeAt b o (l.map B8)) := by
  by_cases hl : l = []
  · subst hl
    rcases h with ⟨_, p, cap, rfl, _⟩ | ⟨b, o, cap, rfl, _⟩
    · exact ⟨p, cap, rfl, fun h => by simp at h⟩
    · exact ⟨_, cap, rfl, fun h => by simp at h⟩
  · obtain ⟨b, o, cap, rfl, _, hr⟩ := hb_form h hl
    exact ⟨_, cap, rfl, fun _ => ⟨b, o, rfl, hr⟩⟩
set_option maxHeartbeats 1000000 in
theorem granule_any (v : Value) (b : List UInt8) (w : World) (h : HB w v b) :
    Calls Try.prog 29 #[v] w fun e w' => e = .returned (gV (gr b)) ∧ Below w.heap.size w w' := by
  unfold gV
  have hzv := fun W => zero_gr W
  obtain ⟨ZL, hZL⟩ : ∃ L, L = Z128.map B8 := ⟨_, rfl⟩
  rw [← hZL] at hzv
  have HZS : Hid (ZL.toArray.size = 128) := by show _ = _; rw [hZL]; simp [Z128]
  have HZ1 : Hid (ZL.toArray.all (·.oneCell') = true) := by show _ = _; rw [hZL]; exact B8_onea _
  have HZL : Hid _ := hZL
  clear hZL
  obtain ⟨GL, hGL⟩ : ∃ L, L = (gr b).map B8 := ⟨_, rfl⟩
  have hl128 : GL.length = 128 := by rw [hGL, List.length_map]; exact gr_len b
  rw [← hGL]
  have HGI : Hid _ := info128 GL hl128
  have HGA : Hid (GL.toArray.size = 128) := by show _ = _; simpa using hl128
  have HG1a : Hid (GL.toArray.all (·.oneCell') = true) := by show _ = _; rw [hGL]; exact B8_onea _
  obtain ⟨V2, hV2⟩ : ∃ V2, V2 = (w.alloc (.cells ZL.toArray 45 (0, 0))).alloc (.cells ZL.toArray 45 (0, 0)) := ⟨_, rfl⟩
  have hbl : Below w.heap.size w V2 := by rw [hV2]; exact ((Below.refl _ _).alloc (Nat.le_refl _) _).alloc (by simp) _
  have HR1 : Hid (V2.heap[w.heap.size]? = some (.cells ZL.toArray 45 (0, 0))) := by
    rw [hV2]; exact (Below.heap_alloc _ _ _ (by simp)).trans (heap_alloc_new _ _)
  have HR2 : Hid (V2.heap[w.heap.size + 1]? = some (.cells ZL.toArray 45 (0, 0))) := by rw [hV2]; exact heap_at _ _ _ (by simp)
  obtain ⟨p, cap, rfl, hp⟩ := hb_any (h.below hbl)
  obtain ⟨CS, hCS⟩ : ∃ CS, CS = (b.take 128).map B8 := ⟨_, rfl⟩
  have hCL : CS.length = Nat.min b.length 128 := by rw [hCS, List.length_map, List.length_take]; exact Nat.min_comm _ _
  have HCL : Hid _ := hCL
  have HC1 : Hid (∀ v ∈ CS, v.oneCell' = true) := by rw [hCS]; exact B8_one _
  have HPOS : Hid (0 < CS.length → ∃ ad, p = some ad ∧ ∀ j v, CS[j]? = some v → V2.cell? (ad.add j) = some v) := fun h0 => by
    obtain ⟨sb, so, rfl, hr⟩ := hp (by rw [hCL] at h0; have := Nat.lt_min.1 h0; exact this.1)
    refine ⟨_, rfl, fun j v hv => ?_⟩
    rw [add_none]
    have := rangeAt_part hr 0 128
    rw [List.drop_zero, ← List.map_take, ← hCS] at this
    exact this j v hv
  have HZLl : Hid (ZL.length = 128) := by show _ = _; have := HZS.out; simpa using this
  have HFIT : Hid (0 + CS.length ≤ ZL.length) := by show _ ≤ _; rw [hCL, HZLl.out, Nat.zero_add]; exact Nat.min_le_right _ _
  have HSP : Hid (splice ZL 0 CS = GL) := by show _ = _; rw [HZL.out, hCS, hGL, splice_map]; rfl
  have hsl4 := fun W => slice_grA W (w.heap.size + 1) 0
  have HBL : Hid _ := hbl
  have HV2 : Hid _ := hV2
  rw [hV2] at HR2 HPOS
  clear hGL hl128 h hp hbl hCS hCL hV2
  go_enter Try.func29, Try.ntmps29
  go_wp2_with (first
    | (refine wpList_copy_seg rfl _ _ rfl (w.heap.size + 1) 0 128 128 p b.length cap rfl rfl ZL 45 HR2.out CS HCL.out HPOS.out HFIT.out HC1.out ?_; intro V3 HR3 HOT HB3; rw [HSP.out] at HR3; rw [← HV2.out] at HOT HB3; have HR13 : Hid (V3.heap[w.heap.size]? = some (.cells ZL.toArray 45 (0, 0))) := (HOT.out _ (by omega)).trans HR1.out; have HRA3 : Hid _ := rangeAt_row HR3.out; clear HR3 HR2 HPOS)
    | (refine wpList_load_mid rfl 45 _ rfl (w.heap.size + 1) 0 rfl GL _ HRA3.out Try.underlying45 rfl HGI.out ?_)
    | (refine wpList_store_row rfl 45 _ _ rfl w.heap.size GL.toArray rfl rfl 45 ZL.toArray HR13.out (info128a _ HGA.out) (HZS.out.trans HGA.out.symm) HG1a.out ?_))
  refine bodyPost_ret (v := .agg GL.toArray) (results_cell_row Try.results29 _ _ w.heap.size 45 _ (0, 0) _ rfl (setRow_heap _ _ _ _ _ _ HR13.out) Try.underlying45 rfl (info128a _ HGA.out)) rfl ⟨rfl, below_setRow (HBL.out.trans (HB3.out.mono (by omega))) (Nat.le_refl _) _⟩
end Go.Proofs.Ytikchlmfklbojaa.MC
