import Derived.Test.YtekbppfocnbhbaaGreatQM
import Derived.Test.YtekbppfocnbhbaaGreatPE
import Derived.Maps.RangeWalk
set_option linter.unusedVariables false
set_option linter.unusedSimpArgs false
set_option maxHeartbeats 16000000
set_option maxRecDepth 100000
namespace Go.Proofs.YtekbppfocnbhbaaGreat.XC
open Go.RowKit
theorem at_app {α : Type} (p : List α) (x : α) (q : List α) (n : Nat) (h : p.length = n) : (p ++ x :: q)[n]? = some x := by
  rw [List.getElem?_append_right (by omega), h, Nat.sub_self]; rfl
theorem set_app {α : Type} (p : List α) (x y : α) (q : List α) (n : Nat) (h : p.length = n) : (p ++ x :: q).set n y = p ++ y :: q := by
  rw [List.set_append_right _ _ (by omega), h, Nat.sub_self]; rfl
theorem seg_app {α : Type} (p m q : List α) (n k : Nat) (h : p.length = n) (hm : m.length = k) : ((p ++ (m ++ q)).drop n).take k = m := by
  rw [List.drop_append_of_le_length (by omega), ← h, List.drop_length, List.nil_append, List.take_append_of_le_length (by omega), List.take_of_length_le (by omega)]
theorem spl_app {α : Type} (p m m' q : List α) (n : Nat) (h : p.length = n) (hm : m.length = m'.length) : splice (p ++ (m ++ q)) n m' = p ++ (m' ++ q) := by
  unfold splice
  rw [List.take_append_of_le_length (by omega), List.take_of_length_le (by omega), ← List.append_assoc p m q, List.drop_append_of_le_length (by rw [List.length_append]; omega), List.drop_of_length_le (by rw [List.length_append]; omega)]
  simp
structure Rd where
  kind : Int
  value : List UInt8
  page : Int
  data : List UInt8
  pc : Nat
  rs : List Nat
  run : Bool
structure Rd.ok (r : Rd) : Prop where
  v : r.value.length = 32
  d : r.data.length = 128
  s : r.rs.length = 8
def rdL (r : Rd) : List Value := .int .i64 r.kind :: (r.value.map B8 ++ (.int .i64 r.page :: (r.data.map B8 ++ PC.rcL r.pc r.rs r.run)))
theorem rdL_len {r : Rd} (h : r.ok) : (rdL r).length = 172 := by
  unfold rdL; rw [List.length_cons, List.length_append, List.length_cons, List.length_append, List.length_map, List.length_map, PC.rcL_len _ _ _ h.s, h.v, h.d]
theorem rdL_one (r : Rd) : ∀ u ∈ rdL r, u.oneCell' = true := by
  intro u hu
  unfold rdL at hu
  rcases List.mem_cons.1 hu with rfl | hu
  · rfl
  · rcases List.mem_append.1 hu with hu | hu
    · exact PC.B8_one _ _ hu
    · rcases List.mem_cons.1 hu with rfl | hu
      · rfl
      · rcases List.mem_append.1 hu with hu | hu
        · exact PC.B8_one _ _ hu
        · exact PC.rcL_one _ _ _ _ hu
def lgC (l : List Rd) : List Value := l.flatMap rdL
theorem lgC_len {l : List Rd} (h : ∀ r ∈ l, r.ok) : (lgC l).length = l.length * 172 := by
  induction l with
  | nil => rfl
  | cons r l ih =>
    unfold lgC at ih ⊢
    rw [List.flatMap_cons, List.length_append, rdL_len (h r (by simp)), ih (fun x hx => h x (by simp [hx])), List.length_cons]; omega
theorem lgC_snoc (l : List Rd) (r : Rd) : lgC (l ++ [r]) = lgC l ++ rdL r := by unfold lgC; rw [List.flatMap_append]; simp
theorem lgC_one (l : List Rd) : ∀ u ∈ lgC l, u.oneCell' = true := by
  intro u hu
  obtain ⟨x, _, hx⟩ := List.mem_flatMap.1 hu
  exact rdL_one x u hx
structure Rm where
  inst : Nat
  st : Int
  root : Int
  nodes : Nat
  meas : List UInt8
  log : List Rd
  key : List UInt8
  ctr : Nat
  tree : List UInt8
  recs : Nat
structure Rm.ok (r : Rm) : Prop where
  m : r.meas.length = 32
  k : r.key.length = 32
  t : r.tree.length = 32
  l : ∀ x ∈ r.log, x.ok
def rmL (r : Rm) (lv : Value) : List Value := PC.U8 r.inst :: .int .i64 r.st :: .int .i64 r.root :: PC.U8 r.nodes :: (r.meas.map B8 ++ (lv :: (r.key.map B8 ++ (PC.U8 r.ctr :: (r.tree.map B8 ++ [.int .i64 (r.recs : Int)])))))
def zR : Rm := ⟨0, 0, 0, 0, PC.Z32, [], PC.Z32, 0, PC.Z32, 0⟩
theorem zR_ok : zR.ok := ⟨PC.z32_len, PC.z32_len, PC.z32_len, fun x hx => by cases hx⟩
theorem rmL_len {r : Rm} (h : r.ok) (lv : Value) : (rmL r lv).length = 103 := by unfold rmL; simp [h.m, h.k, h.t]
theorem rmL_36 {r : Rm} (h : r.ok) (lv : Value) : (rmL r lv)[36]? = some lv := at_app ([PC.U8 r.inst, .int .i64 r.st, .int .i64 r.root, PC.U8 r.nodes] ++ r.meas.map B8) lv _ 36 (by simp [h.m])
theorem rmL_69 {r : Rm} (h : r.ok) (lv : Value) : (rmL r lv)[69]? = some (PC.U8 r.ctr) := by
  have e : rmL r lv = ([PC.U8 r.inst, .int .i64 r.st, .int .i64 r.root, PC.U8 r.nodes] ++ r.meas.map B8 ++ lv :: r.key.map B8) ++ PC.U8 r.ctr :: (r.tree.map B8 ++ [.int .i64 (r.recs : Int)]) := by simp [rmL]
  rw [e]; exact at_app _ _ _ 69 (by simp [h.m, h.k])
theorem rmL_102 {r : Rm} (h : r.ok) (lv : Value) : (rmL r lv)[102]? = some (.int .i64 (r.recs : Int)) := by
  have e : rmL r lv = ([PC.U8 r.inst, .int .i64 r.st, .int .i64 r.root, PC.U8 r.nodes] ++ r.meas.map B8 ++ (lv :: r.key.map B8) ++ (PC.U8 r.ctr :: r.tree.map B8)) ++ .int .i64 (r.recs : Int) :: [] := by simp [rmL]
  rw [e]; exact at_app _ _ _ 102 (by simp [h.m, h.k, h.t])
theorem rmL_set36 {r : Rm} (h : r.ok) (lv : Value) (v : Value) : (rmL r lv).set 36 v = rmL r v := set_app ([PC.U8 r.inst, .int .i64 r.st, .int .i64 r.root, PC.U8 r.nodes] ++ r.meas.map B8) lv v _ 36 (by simp [h.m])
theorem rmL_set69 {r : Rm} (h : r.ok) (lv : Value) (c : Nat) : (rmL r lv).set 69 (PC.U8 c) = rmL { r with ctr := c } lv := by
  have e : rmL r lv = ([PC.U8 r.inst, .int .i64 r.st, .int .i64 r.root, PC.U8 r.nodes] ++ r.meas.map B8 ++ lv :: r.key.map B8) ++ PC.U8 r.ctr :: (r.tree.map B8 ++ [.int .i64 (r.recs : Int)]) := by simp [rmL]
  rw [e, set_app _ _ _ _ 69 (by simp [h.m, h.k])]; simp [rmL]
theorem rmL_set102 {r : Rm} (h : r.ok) (lv : Value) (c : Nat) : (rmL r lv).set 102 (.int .i64 (c : Int)) = rmL { r with recs := c } lv := by
  have e : rmL r lv = ([PC.U8 r.inst, .int .i64 r.st, .int .i64 r.root, PC.U8 r.nodes] ++ r.meas.map B8 ++ (lv :: r.key.map B8) ++ (PC.U8 r.ctr :: r.tree.map B8)) ++ .int .i64 (r.recs : Int) :: [] := by simp [rmL]
  rw [e, set_app _ _ _ _ 102 (by simp [h.m, h.k, h.t])]; simp [rmL]
theorem rmL_meas {r : Rm} (h : r.ok) (lv : Value) : ((rmL r lv).drop 4).take 32 = r.meas.map B8 := seg_app [PC.U8 r.inst, .int .i64 r.st, .int .i64 r.root, PC.U8 r.nodes] (r.meas.map B8) _ 4 32 rfl (by simp [h.m])
theorem rmL_splM {r : Rm} (h : r.ok) (lv : Value) (m : List UInt8) (hm : m.length = 32) : splice (rmL r lv) 4 (m.map B8) = rmL { r with meas := m } lv := spl_app [PC.U8 r.inst, .int .i64 r.st, .int .i64 r.root, PC.U8 r.nodes] (r.meas.map B8) (m.map B8) _ 4 rfl (by simp [h.m, hm])
theorem rmL_splK {r : Rm} (h : r.ok) (lv : Value) (m : List UInt8) (hm : m.length = 32) : splice (rmL r lv) 37 (m.map B8) = rmL { r with key := m } lv := by
  have e : rmL r lv = ([PC.U8 r.inst, .int .i64 r.st, .int .i64 r.root, PC.U8 r.nodes] ++ r.meas.map B8 ++ [lv]) ++ (r.key.map B8 ++ PC.U8 r.ctr :: (r.tree.map B8 ++ [.int .i64 (r.recs : Int)])) := by simp [rmL]
  rw [e, spl_app _ _ (m.map B8) _ 37 (by simp [h.m]) (by simp [h.k, hm])]; simp [rmL]
theorem rmL_splT {r : Rm} (h : r.ok) (lv : Value) (m : List UInt8) (hm : m.length = 32) : splice (rmL r lv) 70 (m.map B8) = rmL { r with tree := m } lv := by
  have e : rmL r lv = ([PC.U8 r.inst, .int .i64 r.st, .int .i64 r.root, PC.U8 r.nodes] ++ r.meas.map B8 ++ (lv :: r.key.map B8) ++ [PC.U8 r.ctr]) ++ (r.tree.map B8 ++ [.int .i64 (r.recs : Int)]) := by simp [rmL]
  rw [e, spl_app _ _ (m.map B8) _ 70 (by simp [h.m, h.k]) (by simp [h.t, hm])]; simp [rmL]
theorem rmL_0 (r : Rm) (lv : Value) : (rmL r lv)[0]? = some (PC.U8 r.inst) := rfl
theorem rmL_1 (r : Rm) (lv : Value) : (rmL r lv)[1]? = some (.int .i64 r.st) := rfl
theorem rmL_set1 (r : Rm) (lv : Value) (s : Int) : (rmL r lv).set 1 (.int .i64 s) = rmL { r with st := s } lv := rfl
theorem rmL_one (r : Rm) (lv : Value) (h : lv.oneCell' = true) : ∀ u ∈ rmL r lv, u.oneCell' = true := by
  intro u hu
  unfold rmL at hu
  simp only [List.mem_cons, List.mem_append, List.not_mem_nil, or_false] at hu
  rcases hu with rfl | rfl | rfl | rfl | hu | rfl | hu | rfl | hu | rfl
  · rfl
  · rfl
  · rfl
  · rfl
  · exact PC.B8_one _ _ hu
  · exact h
  · exact PC.B8_one _ _ hu
  · rfl
  · exact PC.B8_one _ _ hu
  · rfl
theorem info103 (l : List Value) (h : l.length = 103) : (Tryz.prog.info? 47).map (·.size) = some l.length := by rw [h]; kernel_rfl
theorem info103a (A : Array Value) (h : A.size = 103) : (Tryz.prog.info? 47).map (·.size) = some A.size := by rw [h]; kernel_rfl
theorem info172 (l : List Value) (h : l.length = 172) : (Tryz.prog.info? 69).map (·.size) = some l.length := by rw [h]; kernel_rfl
theorem info172a (A : Array Value) (h : A.size = 172) : (Tryz.prog.info? 69).map (·.size) = some A.size := by rw [h]; kernel_rfl
theorem zero_rm (w : World) : (zeroValue 47).run Tryz.prog w = .ok (.agg (rmL zR (.slice none 0 0)).toArray) w := by kernel_rfl
theorem build_zrm (w : World) : (Instr.build 47 #[]).run Tryz.prog w = .ok (.agg (rmL zR (.slice none 0 0)).toArray) w := by kernel_rfl
def zD : Rd := ⟨0, PC.Z32, 0, PC.Z128, 0, PC.Z8, false⟩
theorem zD_ok : zD.ok := ⟨PC.z32_len, PC.z128_len, PC.z8_len⟩
def zRd : Array Value := (rdL zD).toArray
theorem infoRd : (Tryz.prog.info? 69).map (fun i => (i.zero, i.size, i.bytes)) = some (some (.agg zRd), 172, 256) := by kernel_rfl
theorem zero_rd (w : World) : (zeroValue 69).run Tryz.prog w = .ok (.agg zRd) w := by kernel_rfl
def HR (w : World) (v : Value) (l : List Rd) : Prop := (v = .slice none 0 0 ∧ l = []) ∨ ∃ g cap, v = .slice (some ⟨g, 0, none⟩) l.length cap ∧ ∀ j u, (lgC l)[j]? = some u → w.cell? ⟨g, j, none⟩ = some u
def HO (w : World) (v : Value) (l : List Rd) : Prop := w.ownsRow 0 69 172 v l.length (lgC l)
theorem HO.hr {B : Nat} {w : World} {v : Value} {l : List Rd} (h : w.ownsRow B 69 172 v l.length (lgC l)) : HR w v l := by
  rcases h.2 with ⟨e1, e2⟩ | ⟨g, cap, cur, e1, _⟩
  · exact .inl ⟨e1, List.eq_nil_of_length_eq_zero e2⟩
  · refine .inr ⟨g, cap, e1, fun j u hu => ?_⟩
    have := h.cells (g := g) (by rw [e1]; rfl) j u hu
    rwa [PC.add_none, Nat.zero_add] at this
theorem HR.keep {w w' : World} {v : Value} {l : List Rd} (h : HR w v l) (hk : ∀ k, v.ownBlock = some k → k < w.heap.size → w'.heap[k]? = w.heap[k]?) : HR w' v l := by
  rcases h with h | ⟨g, cap, e, hc⟩
  · exact .inl h
  · refine .inr ⟨g, cap, e, fun j u hu => ?_⟩
    have h1 := hc j u hu
    exact (World.cell?_of_block (a := ⟨g, j, none⟩) (hk g (by rw [e]; rfl) (block_lt h1))).trans h1
theorem HR.below {w w' : World} {v : Value} {l : List Rd} (h : HR w v l) (hb : Below w.heap.size w w') : HR w' v l := h.keep (fun k _ hl => hb.block k hl)
theorem HR.form {w : World} {v : Value} {l : List Rd} (h : HR w v l) : ∃ p cap, v = .slice p l.length cap := by
  rcases h with ⟨e, rfl⟩ | ⟨g, cap, e, _⟩
  · exact ⟨none, 0, e⟩
  · exact ⟨_, cap, e⟩
theorem HR.one {w : World} {v : Value} {l : List Rd} (h : HR w v l) : v.oneCell' = true := by obtain ⟨p, c, rfl⟩ := h.form; rfl
theorem rmL_onea (r : Rm) {w : World} {lv : Value} {l : List Rd} (h : HR w lv l) : (rmL r lv).toArray.all (·.oneCell') = true := PC.onea (rmL_one r lv h.one)
theorem cloneR_any {v : Value} {l : List Rd} {w : World} (h : HR w v l) (hok : ∀ x ∈ l, x.ok) (hl : l.length < 1000000) :
    Calls Tryz.prog 77 #[v] w fun e w' => ∃ v', e = .returned v' ∧ w'.ownsRow w.heap.size 69 172 v' l.length (lgC l) ∧ Below w.heap.size w w' := by
  have qT : ∀ (w : World) (r : Option Addr) (n c : Nat), (binOp .eql 45 (.slice r n c) (.slice none 0 0)).run Tryz.prog w = .ok (.bool r.isNone) w := fun w r n c => Lib.run_eql_slice_nil w _ _ r n c 0 0 Tryz.underlying45
  have hlen := lgC_len hok
  rcases h with ⟨e1, e2⟩ | ⟨g, cap, e1, hc⟩
  · subst e1 e2
    clear hlen
    go_enter Tryz.func77, Tryz.ntmps77
    go_wp2
    go_ret
    exact ⟨_, rfl, World.ownsRow_nil _ _ _ _, Below.refl _ _⟩
  · subst e1
    have HO1 : Hid _ := lgC_one l
    obtain ⟨N, hN⟩ : ∃ N, N = l.length := ⟨_, rfl⟩
    have HN' : Hid (∀ j u, (lgC l)[j]? = some u → (w.alloc (.cells #[] 69 (0, 0))).cell? ((⟨g, 0, none⟩ : Addr).add j) = some u) := fun j u hu => by
      have hcc := hc j u hu
      rw [PC.add_none, Nat.zero_add]
      exact (Below.cell ((Below.refl _ w).alloc (Nat.le_refl _) _) (block_lt hcc)).trans hcc
    obtain ⟨i0, hi, hz0, hz1, hz2⟩ := info_parts infoRd
    have HOE : Hid ((w.alloc (.cells #[] 69 (0, 0))).ownsRow w.heap.size 69 172 (.slice (some ⟨w.heap.size, 0, none⟩) 0 0) 0 []) := ⟨rfl, .inr ⟨w.heap.size, 0, #[], rfl, Nat.le_refl _, heap_alloc_new _ _, Nat.le_refl _, by unfold maxLen; omega, rfl, rfl⟩⟩
    have hN6 : N < 1000000 := by rw [hN]; exact hl
    have HNN : Hid _ := hN
    have HL : Hid ((lgC l).length = N * 172) := by rw [hN]; exact hlen
    rw [← hN] at ⊢
    clear hc hN hlen
    go_enter Tryz.func77, Tryz.ntmps77
    go_wp2_with (at_builtin; (refine wpList_append_own _ rfl (.tmp 5) (.tmp 6) 45 rfl w.heap.size 69 i0 (.agg zRd) 172 256 Tryz.underlying45 hi hz0 hz1 hz2 rfl (by decide) (.slice (some ⟨w.heap.size, 0, none⟩) 0 0) 0 [] rfl HOE.out ⟨g, 0, none⟩ N cap (lgC l) rfl HL.out HN'.out HO1.out (by unfold maxLen; omega) (by omega) (by simp) ?_; intro v1 w1 hown1 hgr1 _))
    go_ret
    rw [List.nil_append, Nat.zero_add] at hown1
    exact ⟨_, rfl, hown1, ((Below.refl _ w).alloc (Nat.le_refl _) _).grown hgr1 (by simp) (fun k e => by have e' : w.heap.size = k := (by simpa [Value.ownBlock] using e); omega)⟩
open Go.ChangeMaps (setBlock heap_setBlock_same heap_setBlock_other)
def iOk (x : Int) : Prop := (Lit.int .i64 x).wf = true
theorem lawI : Maps.Keyed Tryz.prog 3 := Maps.int_keyed Tryz.underlying3
theorem key_i {x : Int} (h : iOk x) : keyOf Tryz.prog 3 (.int .i64 x) = some (.int .i64 x) := Maps.keyOf_int_mk Tryz.underlying3 h
abbrev En := Int × Rm × Value
def itm (x : En) : Value × Value := (.int .i64 x.1, .agg (rmL x.2.1 x.2.2).toArray)
structure MR (w : World) (mb : Nat) (l : List En) : Prop where
  ex : ∃ es clock, w.heap[mb]? = some (.map es clock) ∧ (es.toList.map fun e => (e.key, e.val)) = l.map itm ∧ MapKept.Stamped es clock
  iok : ∀ x ∈ l, iOk x.1
  once : (l.map (·.1)).Nodup
theorem MR.lt {w : World} {mb : Nat} {l : List En} (h : MR w mb l) : mb < w.heap.size := by
  obtain ⟨es, c, h1, _⟩ := h.ex; exact PC.row_lt h1
theorem MR.keep {w w' : World} {mb : Nat} {l : List En} (h : MR w mb l) (e : w'.heap[mb]? = w.heap[mb]?) : MR w' mb l := by
  obtain ⟨es, c, h1, h2⟩ := h.ex; exact ⟨⟨es, c, e.trans h1, h2⟩, h.iok, h.once⟩
theorem MR.mem {es : Array MapEntry} {l : List En} (h : (es.toList.map fun e => (e.key, e.val)) = l.map itm) {e : MapEntry} (he : e ∈ es.toList) : ∃ x ∈ l, e.key = .int .i64 x.1 ∧ e.val = (itm x).2 := by
  have h1 : (e.key, e.val) ∈ l.map itm := by rw [← h]; exact List.mem_map.2 ⟨e, he, rfl⟩
  obtain ⟨x, hx, hxe⟩ := List.mem_map.1 h1
  exact ⟨x, hx, by have := congrArg Prod.fst hxe; exact this.symm, by have := congrArg Prod.snd hxe; exact this.symm⟩
theorem MR.at {es : Array MapEntry} {l : List En} (h : (es.toList.map fun e => (e.key, e.val)) = l.map itm) {j : Nat} {e : MapEntry} (he : es.toList[j]? = some e) : ∃ x, l[j]? = some x ∧ e.key = .int .i64 x.1 ∧ e.val = (itm x).2 := by
  have h1 : (l.map itm)[j]? = some (e.key, e.val) := by rw [← h, List.getElem?_map, he]; rfl
  rw [List.getElem?_map] at h1
  cases hx : l[j]? with
  | none => rw [hx] at h1; cases h1
  | some x =>
    rw [hx] at h1
    have h2 : itm x = (e.key, e.val) := by simpa using h1
    exact ⟨x, rfl, by have := congrArg Prod.fst h2; exact this.symm, by have := congrArg Prod.snd h2; exact this.symm⟩
theorem split_j {α : Type} {l : List α} {j : Nat} {x : α} (h : l[j]? = some x) : ∃ a b, l = a ++ x :: b ∧ a.length = j := by
  have hj := (List.getElem?_eq_some_iff.1 h).1
  refine ⟨l.take j, l.drop (j + 1), ?_, by rw [List.length_take]; omega⟩
  have he := (List.getElem?_eq_some_iff.1 h).2
  rw [← he, List.getElem_cons_drop, List.take_append_drop]
theorem once_at {β : Type} {l : List (Int × β)} (hn : (l.map (·.1)).Nodup) {i j : Nat} {x y : Int × β} (hx : l[i]? = some x) (hy : l[j]? = some y) (e : x.1 = y.1) : i = j := by
  have hi := (List.getElem?_eq_some_iff.1 hx).1
  have hj := (List.getElem?_eq_some_iff.1 hy).1
  have h1 : (l.map (·.1))[i]? = some x.1 := by rw [List.getElem?_map, hx]; rfl
  have h2 : (l.map (·.1))[j]? = some x.1 := by rw [List.getElem?_map, hy, e]; rfl
  exact (List.getElem?_inj (by simpa using hi) hn).1 (h1.trans h2.symm)
theorem find_i {w : World} {es : Array MapEntry} {l : List En} (hk : ∀ x ∈ l, iOk x.1) (h2 : (es.toList.map fun e => (e.key, e.val)) = l.map itm) {rd : Int} (hrd : iOk rd) :
    ((∀ x ∈ l, x.1 ≠ rd) ∧ (Instr.findKey 3 (.int .i64 rd) es.toList).run Tryz.prog w = .ok none w) ∨
    (∃ j x e, l[j]? = some x ∧ x.1 = rd ∧ es.toList[j]? = some e ∧ e.key = .int .i64 rd ∧ (Instr.findKey 3 (.int .i64 rd) es.toList).run Tryz.prog w = .ok (some (j, (itm x).2)) w) := by
  rcases lawI.find w (key_i hrd) es.toList (fun e he => by obtain ⟨x, hx, e1, _⟩ := MR.mem h2 he; rw [e1]; exact ⟨_, key_i (hk x hx)⟩) with ⟨hr, hn⟩ | ⟨j, e, hr, hj, he⟩
  · refine .inl ⟨fun x hx e => ?_, hr⟩
    have h1 : itm x ∈ es.toList.map fun e => (e.key, e.val) := by rw [h2]; exact List.mem_map.2 ⟨x, hx, rfl⟩
    obtain ⟨y, hy, hye⟩ := List.mem_map.1 h1
    exact hn y hy (by have := congrArg Prod.fst hye; rw [← e]; exact this)
  · obtain ⟨x, hx, e1, e2⟩ := MR.at h2 hj
    exact .inr ⟨j, x, e, hx, by rw [e1] at he; simpa using he, hj, he, by rw [← e2]; exact hr⟩
theorem mr_none {w : World} {mb : Nat} {l : List En} (h : MR w mb l) {rd : Int} (hrd : iOk rd) (hno : ∀ x ∈ l, x.1 ≠ rd) :
    (Instr.lookup 78 (.map (some mb)) (.int .i64 rd) true).run Tryz.prog w = .ok (.tuple #[.agg (rmL zR (.slice none 0 0)).toArray, .bool false]) w := by
  obtain ⟨es, clock, h1, h2, h3⟩ := h.ex
  rcases find_i (w := w) h.iok h2 hrd with ⟨hf, hr⟩ | ⟨j, x, e, hx, hxe, _⟩
  · simp [Instr.lookup, run_underlying Tryz.underlying78, MapKept.run_getObj_map h1, lawI.check w _ (key_i hrd), hr, zero_rm, Result.andThen]
    kernel_rfl
  · exact absurd hxe (hno x (List.mem_of_getElem? hx))
theorem mr_some {w : World} {mb : Nat} {l a b : List En} {r : Rm} {lv : Value} {rd : Int} (h : MR w mb l) (hrd : iOk rd) (hl : l = a ++ (rd, r, lv) :: b) (c : Bool) :
    (Instr.lookup 78 (.map (some mb)) (.int .i64 rd) c).run Tryz.prog w = .ok (if c then .tuple #[.agg (rmL r lv).toArray, .bool true] else .agg (rmL r lv).toArray) w := by
  obtain ⟨es, clock, h1, h2, h3⟩ := h.ex
  have ha : l[a.length]? = some (rd, r, lv) := by rw [hl]; exact at_app _ _ _ _ rfl
  rcases find_i (w := w) h.iok h2 hrd with ⟨hf, hr⟩ | ⟨j, x, e, hx, hxe, _, _, hr⟩
  · exact absurd rfl (hf _ (List.mem_of_getElem? ha))
  · have hj := once_at h.once hx ha hxe
    subst hj
    rw [ha] at hx
    obtain rfl : (rd, r, lv) = x := by simpa using hx
    cases c <;> simp [Instr.lookup, run_underlying Tryz.underlying78, MapKept.run_getObj_map h1, lawI.check w _ (key_i hrd), hr, Result.andThen, itm]
theorem mr_new {w : World} {mb : Nat} {l : List En} (h : MR w mb l) {rd : Int} (hrd : iOk rd) (hno : ∀ x ∈ l, x.1 ≠ rd) (r : Rm) (lv : Value) :
    ∃ o, (Instr.mapUpdate 78 (.map (some mb)) (.int .i64 rd) (.agg (rmL r lv).toArray)).run Tryz.prog w = .ok () (setBlock w mb o) ∧ MR (setBlock w mb o) mb (l ++ [(rd, r, lv)]) ∧ w.grownBy (setBlock w mb o) (some mb) := by
  obtain ⟨es, clock, h1, h2, h3⟩ := h.ex
  rcases find_i (w := w) h.iok h2 hrd with ⟨hf, hr⟩ | ⟨j, x, e, hx, hxe, _⟩
  · refine ⟨.map (es.push ⟨.int .i64 rd, .agg (rmL r lv).toArray, clock⟩) (clock + 1), ?_, ⟨⟨_, _, heap_setBlock_same h1 _, ?_, MapKept.stamped_push h3 (fun y hy e => ?_)⟩, ?_, ?_⟩, ⟨rfl, rfl, rfl, by simp [setBlock], fun i _ hi => heap_setBlock_other h1 _ (fun e => hi (by rw [e]))⟩⟩
    · simp [Instr.mapUpdate, run_underlying Tryz.underlying78, MapKept.run_getObj_map h1, lawI.check w false (key_i hrd), hr, MapKept.run_setObj_map _ h1, Result.andThen, setBlock]
    · rw [Array.toList_push, List.map_append, List.map_append, h2]; rfl
    · obtain ⟨x, hx, e1, _⟩ := MR.mem h2 hy
      exact hno x hx (by rw [e1] at e; simpa using e)
    · intro x hx
      rcases List.mem_append.1 hx with hx | hx
      · exact h.iok x hx
      · obtain rfl : x = _ := by simpa using hx
        exact hrd
    · rw [List.map_append, List.nodup_append]
      refine ⟨h.once, by simp, fun a ha b hb e => ?_⟩
      have hbq : b = rd := by simpa using hb
      obtain ⟨x, hx, hxa⟩ := List.mem_map.1 ha
      exact hno x hx (by rw [hxa, e, hbq])
  · exact absurd hxe (hno x (List.mem_of_getElem? hx))
theorem keys_upd {a b : List En} {rd : Int} {r r' : Rm} {lv lv' : Value} : (a ++ (rd, r', lv') :: b).map (·.1) = (a ++ (rd, r, lv) :: b).map (·.1) := by simp
theorem mr_put {w : World} {mb : Nat} {l a b : List En} {r : Rm} {lv : Value} {rd : Int} (h : MR w mb l) (hrd : iOk rd) (hl : l = a ++ (rd, r, lv) :: b) (r' : Rm) (lv' : Value) :
    ∃ o, (Instr.mapUpdate 78 (.map (some mb)) (.int .i64 rd) (.agg (rmL r' lv').toArray)).run Tryz.prog w = .ok () (setBlock w mb o) ∧ MR (setBlock w mb o) mb (a ++ (rd, r', lv') :: b) ∧ w.grownBy (setBlock w mb o) (some mb) := by
  obtain ⟨es, clock, h1, h2, h3⟩ := h.ex
  have ha : l[a.length]? = some (rd, r, lv) := by rw [hl]; exact at_app _ _ _ _ rfl
  rcases find_i (w := w) h.iok h2 hrd with ⟨hf, hr⟩ | ⟨j, x, e, hx, hxe, hj, hke, hr⟩
  · exact absurd rfl (hf _ (List.mem_of_getElem? ha))
  · have hjj := once_at h.once hx ha hxe
    subst hjj
    have hja : es[a.length]? = some e := by rw [← Array.getElem?_toList]; exact hj
    have hlist : (es.modify a.length (fun e' => { e' with key := .int .i64 rd, val := .agg (rmL r' lv').toArray })).toList = es.toList.set a.length { e with key := .int .i64 rd, val := .agg (rmL r' lv').toArray } := by
      rw [Array.toList_modify]
      apply List.ext_getElem?
      intro i
      rw [List.getElem?_modify, List.getElem?_set]
      by_cases hi : a.length = i
      · subst hi
        rw [hj, if_pos rfl, if_pos ((List.getElem?_eq_some_iff.1 hj).1)]; simp
      · simp [hi]
    refine ⟨.map (es.modify a.length (fun e' => { e' with key := .int .i64 rd, val := .agg (rmL r' lv').toArray })) clock, ?_, ⟨⟨_, _, heap_setBlock_same h1 _, ?_, MapKept.stamped_modify h3 _ _ (fun _ _ => rfl) (fun e' _ he' => ?_)⟩, ?_, ?_⟩, ⟨rfl, rfl, rfl, by simp [setBlock], fun i _ hi => heap_setBlock_other h1 _ (fun e => hi (by rw [e]))⟩⟩
    · simp [Instr.mapUpdate, run_underlying Tryz.underlying78, MapKept.run_getObj_map h1, lawI.check w false (key_i hrd), hr, hja, hke, lawI.stays w (key_i hrd), MapKept.run_setObj_map _ h1, Result.andThen, setBlock]
    · rw [hlist, List.map_set, h2, hl, List.map_append, List.map_cons, set_app _ _ _ _ _ (by simp), List.map_append, List.map_cons]; rfl
    · rw [hja] at he'
      obtain rfl : e = e' := by simpa using he'
      exact hke.symm
    · intro x hx
      rcases List.mem_append.1 hx with hx | hx
      · exact h.iok x (by rw [hl]; simp [hx])
      · rcases List.mem_cons.1 hx with rfl | hx
        · exact hrd
        · exact h.iok x (by rw [hl]; simp [hx])
    · have := h.once
      rw [hl] at this
      rw [keys_upd (r := r) (lv := lv)]; exact this
theorem mr_del {w : World} {mb : Nat} {l a b : List En} {r : Rm} {lv : Value} {rd : Int} (h : MR w mb l) (hrd : iOk rd) (hl : l = a ++ (rd, r, lv) :: b) (ty : TypeId) :
    ∃ o, (Builtin.delete_ #[78, 3] ty #[.map (some mb), .int .i64 rd]).run Tryz.prog w = .ok (.tuple #[]) (setBlock w mb o) ∧ MR (setBlock w mb o) mb (a ++ b) ∧ w.grownBy (setBlock w mb o) (some mb) := by
  obtain ⟨es, clock, h1, h2, h3⟩ := h.ex
  have ha : l[a.length]? = some (rd, r, lv) := by rw [hl]; exact at_app _ _ _ _ rfl
  rcases find_i (w := w) h.iok h2 hrd with ⟨hf, hr⟩ | ⟨j, x, e, hx, hxe, hj, hke, hr⟩
  · exact absurd rfl (hf _ (List.mem_of_getElem? ha))
  · have hjj := once_at h.once hx ha hxe
    subst hjj
    have hjs : a.length < es.size := by have := (List.getElem?_eq_some_iff.1 hj).1; simpa using this
    have hsub : (es.eraseIdxIfInBounds a.length).toList = es.toList.eraseIdx a.length := by
      unfold Array.eraseIdxIfInBounds
      rw [dif_pos hjs]
      simp
    have hcut : ∀ {α : Type} (p : List α) (x : α) (q : List α), (p ++ x :: q).eraseIdx p.length = p ++ q := fun p x q => by rw [List.eraseIdx_append_of_length_le (Nat.le_refl _), Nat.sub_self]; rfl
    refine ⟨.map (es.eraseIdxIfInBounds a.length) clock, ?_, ⟨⟨_, _, heap_setBlock_same h1 _, ?_, MapKept.stamped_erase h3 _⟩, ?_, ?_⟩, ⟨rfl, rfl, rfl, by simp [setBlock], fun i _ hi => heap_setBlock_other h1 _ (fun e => hi (by rw [e]))⟩⟩
    · simp [Builtin.delete_, run_underlying Tryz.underlying78, MapKept.run_getObj_map h1, lawI.check w _ (key_i hrd), hr, MapKept.run_setObj_map _ h1, Result.andThen, setBlock]
    · have hme : ∀ {α β : Type} (f : α → β) (p : List α) (i : Nat), (p.eraseIdx i).map f = (p.map f).eraseIdx i := fun f p i => by
        apply List.ext_getElem?
        intro k
        simp only [List.getElem?_map, List.getElem?_eraseIdx]
        split <;> rfl
      rw [hsub, hme, h2, ← hme, hl, hcut]
    · intro x hx
      exact h.iok x (by rw [hl]; rcases List.mem_append.1 hx with hx | hx <;> simp [hx])
    · have := h.once
      rw [hl, List.map_append, List.map_cons] at this
      rw [List.map_append]
      exact this.sublist (List.Sublist.append_left (List.sublist_cons_self _ _) _)
end Go.Proofs.YtekbppfocnbhbaaGreat.XC
