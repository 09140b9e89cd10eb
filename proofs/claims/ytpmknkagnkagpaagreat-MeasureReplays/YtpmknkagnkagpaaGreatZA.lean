/- measure: records as cells; two records are the same. -/
import Derived.Test.YtpmknkagnkagpaaGreatWr
import Derived.Test.YtpmknkagnkagpaaGreatWp
import Derived.Test.YtpmknkagnkagpaaGreatWs
set_option linter.unusedVariables false
set_option linter.unusedSimpArgs false
namespace Go.Proofs.YtpmknkagnkagpaaGreat.ZC
open Go.RowKit

theorem at_app {α : Type} (p : List α) (x : α) (q : List α) (n : Nat) (h : p.length = n) : (p ++ x :: q)[n]? = some x := by
  rw [List.getElem?_append_right (by omega), h, Nat.sub_self]; rfl
theorem seg_app {α : Type} (p m q : List α) (n k : Nat) (h : p.length = n) (hm : m.length = k) : ((p ++ (m ++ q)).drop n).take k = m := by
  rw [List.drop_append_of_le_length (by omega), ← h, List.drop_length, List.nil_append, List.take_append_of_le_length (by omega), List.take_of_length_le (by omega)]
structure Rd where
  kind : Int
  value : List UInt8
  page : Int
  data : List UInt8
  pc : Nat
  rs : List Nat
  run : Bool
structure Rd.ok (r : Rd) : Prop where
  v : r.value.length = 32
  d : r.data.length = 128
  s : r.rs.length = 8
  p : r.pc < 18446744073709551616
  x : ∀ x ∈ r.rs, x < 18446744073709551616
def rdL (r : Rd) : List Value := .int .i64 r.kind :: (r.value.map B8 ++ (.int .i64 r.page :: (r.data.map B8 ++ PC.rcL r.pc r.rs r.run)))
theorem rdL_len {r : Rd} (h : r.ok) : (rdL r).length = 172 := by
  unfold rdL; rw [List.length_cons, List.length_append, List.length_cons, List.length_append, List.length_map, List.length_map, PC.rcL_len _ _ _ h.s, h.v, h.d]
theorem rdL_one (r : Rd) : ∀ u ∈ rdL r, u.oneCell' = true := by
  intro u hu
  unfold rdL at hu
  rcases List.mem_cons.1 hu with rfl | hu
  · rfl
  · rcases List.mem_append.1 hu with hu | hu
    · exact PC.B8_one _ _ hu
    · rcases List.mem_cons.1 hu with rfl | hu
      · rfl
      · rcases List.mem_append.1 hu with hu | hu
        · exact PC.B8_one _ _ hu
        · exact PC.rcL_one _ _ _ _ hu
theorem rdL_0 (r : Rd) : (rdL r)[0]? = some (.int .i64 r.kind) := rfl
theorem rdL_33 {r : Rd} (h : r.ok) : (rdL r)[33]? = some (.int .i64 r.page) := by
  have e : rdL r = (.int .i64 r.kind :: r.value.map B8) ++ .int .i64 r.page :: (r.data.map B8 ++ PC.rcL r.pc r.rs r.run) := by simp [rdL]
  rw [e]; exact at_app _ _ _ 33 (by simp [h.v])
theorem rdL_val {r : Rd} (h : r.ok) : List.take 32 (rdL r).tail = r.value.map B8 := by
  unfold rdL; rw [List.tail_cons, List.take_append_of_le_length (by simp [h.v]), List.take_of_length_le (by simp [h.v])]
theorem rdL_dat {r : Rd} (h : r.ok) : List.take 128 (List.drop 34 (rdL r)) = r.data.map B8 := by
  have e : rdL r = (.int .i64 r.kind :: (r.value.map B8 ++ [.int .i64 r.page])) ++ (r.data.map B8 ++ PC.rcL r.pc r.rs r.run) := by simp [rdL]
  rw [e]; exact seg_app _ _ _ 34 128 (by simp [h.v]) (by simp [h.d])
theorem rdL_rec {r : Rd} (h : r.ok) : List.take 10 (List.drop 162 (rdL r)) = PC.rcL r.pc r.rs r.run := by
  have e : rdL r = (.int .i64 r.kind :: (r.value.map B8 ++ (.int .i64 r.page :: r.data.map B8))) ++ (PC.rcL r.pc r.rs r.run ++ []) := by simp [rdL]
  rw [e]; exact seg_app _ _ _ 162 10 (by simp [h.v, h.d]) (PC.rcL_len _ _ _ h.s)
theorem info172 (l : List Value) (h : l.length = 172) : (Tryz.prog.info? 33).map (·.size) = some l.length := by rw [h]; kernel_rfl
theorem info172a (A : Array Value) (h : A.size = 172) : (Tryz.prog.info? 33).map (·.size) = some A.size := by rw [h]; kernel_rfl
def zD : Rd := ⟨0, PC.Z32, 0, PC.Z128, 0, PC.Z8, false⟩
theorem z8_lt : ∀ x ∈ PC.Z8, x < 18446744073709551616 := by decide
theorem zD_ok : zD.ok := ⟨PC.z32_len, PC.z128_len, PC.z8_len, by decide, z8_lt⟩
theorem zero_rd (w : World) : (zeroValue 33).run Tryz.prog w = .ok (.agg (rdL zD).toArray) w := by kernel_rfl
def rcEq (pc : Nat) (rs : List Nat) (r : Bool) (pc' : Nat) (rs' : List Nat) (r' : Bool) : Bool := pc == pc' && (rs == rs' && r == r')
def rdEq (a b : Rd) : Bool := a.kind == b.kind && (a.value == b.value && (a.page == b.page && (a.data == b.data && rcEq a.pc a.rs a.run b.pc b.rs b.run)))
theorem rdEq_iff (a b : Rd) : rdEq a b = true ↔ a = b := by
  obtain ⟨a1, a2, a3, a4, a5, a6, a7⟩ := a
  obtain ⟨b1, b2, b3, b4, b5, b6, b7⟩ := b
  simp [rdEq, rcEq]
theorem rdEq_self (a : Rd) : rdEq a a = true := (rdEq_iff a a).2 rfl
theorem all_range_eqN : ∀ (xs ys : List Nat), xs.length = ys.length → ((List.range xs.length).all fun i => xs.getD i 0 == ys.getD i 0) = (xs == ys)
  | [], [], _ => rfl
  | x :: xs, y :: ys, h => by
    have ih := all_range_eqN xs ys (by simpa using h)
    rw [List.length_cons, List.range_succ_eq_map, List.all_cons, List.all_map]
    simp only [List.getD_cons_zero, Function.comp_def, List.getD_cons_succ, ih]
    simp [List.cons_beq_cons]
  | [], _ :: _, h => by simp at h
  | _ :: _, [], h => by simp at h
theorem eq_ints {P : Program} (w : World) (d : Nat) (t e : TypeId) (n : Nat) (ht : P.underlying t = some (.array n e)) (he : P.underlying e = some (.int .u64)) (hsz : ∀ w, (sizeOf e).run P w = .ok 1 w)
    (xs ys : List Nat) (hx : xs.length = n) (hy : ys.length = n) :
    (Op.equalIn (d + 2) t (.agg (xs.map PC.U8).toArray) (.agg (ys.map PC.U8).toArray)).run P w = .ok (xs == ys) w := by
  rw [← all_range_eqN xs ys (hx.trans hy.symm), hx, List.range_eq_range', Op.equalIn]
  simp only [Sem.run_bind, run_underlying ht, Result.andThen_ok, hsz, Std.Legacy.Range.forIn_eq_forIn_range', Std.Legacy.Range.size, Nat.sub_zero, Nat.add_sub_cancel, Nat.div_one]
  have hl : ∀ i ∈ List.range' 0 n 1, i < n := fun i hi => by simpa using (List.mem_range'_1.1 hi).2
  generalize List.range' 0 n 1 = l at hl ⊢
  induction l with
  | nil => simp
  | cons i l ih =>
    have hi : i < n := hl i (by simp)
    have px : (Go.part e (xs.map PC.U8).toArray (i * 1)).run P w = .ok (PC.U8 (xs.getD i 0)) w := by
      simp [Go.part, isAgg, run_underlying he, List.getD, List.getElem?_eq_getElem (show i < xs.length by omega)]
    have py : (Go.part e (ys.map PC.U8).toArray (i * 1)).run P w = .ok (PC.U8 (ys.getD i 0)) w := by
      simp [Go.part, isAgg, run_underlying he, List.getD, List.getElem?_eq_getElem (show i < ys.length by omega)]
    have pe : (Op.equalIn (d + 1) e (PC.U8 (xs.getD i 0)) (PC.U8 (ys.getD i 0))).run P w = .ok (xs.getD i 0 == ys.getD i 0) w := by
      unfold PC.U8
      rw [run_equalIn_int w d e .u64 .u64 _ _ he]
      congr 1
      rw [Bool.eq_iff_iff]
      simp
      omega
    simp only [List.forIn_cons, Sem.run_bind, px, py, pe, Result.andThen_ok, List.all_cons]
    cases hb : (xs.getD i 0 == ys.getD i 0)
    · simp
    · simp only [Bool.not_true, Bool.false_eq_true, if_false, Sem.run_pure, Result.andThen_ok, Bool.true_and]
      exact ih fun j hj => hl j (by simp [hj])
def fk (f : Field) : Bool × TypeId × Nat := (f.name == "_", f.type, f.offset)
theorem eqF {P : Program} {w : World} {d : Nat} {xs ys : Array Value} {fs : List Field} {t : TypeId} {o : Nat} {rest : List (Bool × TypeId × Nat)} {a b : Value} {r s : Bool} (hf : fs.map fk = (false, t, o) :: rest) (h1 : (Go.part t xs o).run P w = .ok a w) (h2 : (Go.part t ys o).run P w = .ok b w) (h3 : (Op.equalIn d t a b).run P w = .ok r w) (h4 : ∀ fs' : List Field, fs'.map fk = rest → (Op.eqFields d xs ys fs').run P w = .ok s w) :
    (Op.eqFields d xs ys fs).run P w = .ok (r && s) w := by
  cases fs with
  | nil => cases hf
  | cons f fs =>
    rw [List.map_cons, List.cons.injEq] at hf
    obtain ⟨hk, hr⟩ := hf
    unfold fk at hk
    simp only [Prod.mk.injEq, beq_eq_false_iff_ne] at hk
    obtain ⟨hn, ht, ho⟩ := hk
    subst ht ho
    rw [Op.eqFields, if_pos hn]
    simp only [Sem.run_bind, h1, h2, h3, Result.andThen_ok]
    cases r
    · simp
    · simpa using h4 fs hr
theorem eqN {P : Program} {w : World} {d : Nat} {xs ys : Array Value} : ∀ fs' : List Field, fs'.map fk = [] → (Op.eqFields d xs ys fs').run P w = .ok true w := fun fs' h => by
  have : fs' = [] := by simpa using h
  subst this
  rfl
theorem int_nat (a b : Nat) : ((a : Int) == (b : Int)) = (a == b) := by rw [Bool.eq_iff_iff]; simp; omega
theorem part_int {l : List Value} {n : Nat} {w : World} {t : TypeId} {k : IntKind} {v : Value} (ht : Tryz.prog.underlying t = some (.int k)) (h : l[n]? = some v) : (Go.part t l.toArray n).run Tryz.prog w = .ok v w := by
  simp [Go.part, isAgg, run_underlying ht, h]
theorem part_bool {l : List Value} {n : Nat} {w : World} {t : TypeId} {v : Value} (ht : Tryz.prog.underlying t = some .bool) (h : l[n]? = some v) : (Go.part t l.toArray n).run Tryz.prog w = .ok v w := by
  simp [Go.part, isAgg, run_underlying ht, h]
theorem part_row {l m : List Value} {n s : Nat} {w : World} {t : TypeId} {d : TypeDesc} (ht : Tryz.prog.underlying t = some d) (hd : d.isRow = true) (hs : (sizeOf t).run Tryz.prog w = .ok s w) (h : (l.drop n).take s = m) : (Go.part t l.toArray n).run Tryz.prog w = .ok (.agg m.toArray) w := by
  cases d <;> simp [TypeDesc.isRow] at hd <;> simp [Go.part, isAgg, run_underlying ht, hs, List.extract_eq_take_drop, ← h]
theorem eq_rc (w : World) (d : Nat) (pc : Nat) (rs : List Nat) (r : Bool) (pc' : Nat) (rs' : List Nat) (r' : Bool) (hr : rs.length = 8) (hr' : rs'.length = 8) :
    (Op.equalIn (d + 4) 31 (.agg (PC.rcL pc rs r).toArray) (.agg (PC.rcL pc' rs' r').toArray)).run Tryz.prog w = .ok (rcEq pc rs r pc' rs' r') w := by
  rw [run_equalIn_struct w (d + 3) _ _ _ (by kernel_rfl) (by kernel_rfl)]
  have hf : (Tryz.prog.fieldsOf 31).toList.map fk = [(false, 28, 0), (false, 29, 1), (false, 4, 9)] := by kernel_rfl
  have hb : rcEq pc rs r pc' rs' r' = (((pc : Int) == (pc' : Int)) && ((rs == rs') && ((r == r') && true))) := by unfold rcEq; rw [int_nat, Bool.and_true]
  rw [hb]
  refine eqF hf (part_int Tryz.underlying28 (PC.rcL_pc pc rs r)) (part_int Tryz.underlying28 (PC.rcL_pc pc' rs' r')) (run_equalIn_int w (d + 2) _ _ _ _ _ Tryz.underlying28) (fun f2 h2 => ?_)
  refine eqF h2 (part_row Tryz.underlying29 rfl (PC.size_r8 w) (by have := PC.rcL_rs pc rs r hr; simpa using this)) (part_row Tryz.underlying29 rfl (PC.size_r8 w) (by have := PC.rcL_rs pc' rs' r' hr'; simpa using this)) (eq_ints (P := Tryz.prog) w (d + 1) 29 28 8 Tryz.underlying29 Tryz.underlying28 PC.size_u64 rs rs' hr hr') (fun f3 h3 => ?_)
  exact eqF h3 (part_bool Tryz.underlying4 (PC.rcL_b pc rs r hr)) (part_bool Tryz.underlying4 (PC.rcL_b pc' rs' r' hr')) (run_equalIn_bool w (d + 2) _ _ _ Tryz.underlying4) eqN
theorem size_gr (w : World) : (sizeOf 27).run Tryz.prog w = .ok 128 w := by kernel_rfl
theorem size_rc (w : World) : (sizeOf 31).run Tryz.prog w = .ok 10 w := by kernel_rfl
theorem eq_rd (w : World) (a b : Rd) (ha : a.ok) (hb : b.ok) : (Op.equalIn 10000 33 (.agg (rdL a).toArray) (.agg (rdL b).toArray)).run Tryz.prog w = .ok (rdEq a b) w := by
  rw [run_equalIn_struct w 9999 _ _ _ (by kernel_rfl) (by kernel_rfl)]
  have hf : (Tryz.prog.fieldsOf 33).toList.map fk = [(false, 25, 0), (false, 24, 1), (false, 3, 33), (false, 27, 34), (false, 31, 162)] := by kernel_rfl
  have he : rdEq a b = ((a.kind == b.kind) && ((a.value == b.value) && ((a.page == b.page) && ((a.data == b.data) && (rcEq a.pc a.rs a.run b.pc b.rs b.run && true))))) := by unfold rdEq; rw [Bool.and_true]
  rw [he]
  refine eqF hf (part_int Tryz.underlying25 (rdL_0 a)) (part_int Tryz.underlying25 (rdL_0 b)) (run_equalIn_int w 9998 _ _ _ _ _ Tryz.underlying25) (fun f2 h2 => ?_)
  refine eqF h2 (part_row Tryz.underlying24 rfl (PC.size_dg w) (by rw [List.drop_one]; exact rdL_val ha)) (part_row Tryz.underlying24 rfl (PC.size_dg w) (by rw [List.drop_one]; exact rdL_val hb)) (run_equalIn_bytes (P := Tryz.prog) w 9997 24 5 32 Tryz.underlying24 Tryz.underlying5 PC.size_u8 a.value b.value ha.v hb.v) (fun f3 h3 => ?_)
  refine eqF h3 (part_int Tryz.underlying3 (rdL_33 ha)) (part_int Tryz.underlying3 (rdL_33 hb)) (run_equalIn_int w 9998 _ _ _ _ _ Tryz.underlying3) (fun f4 h4 => ?_)
  refine eqF h4 (part_row Tryz.underlying27 rfl (size_gr w) (rdL_dat ha)) (part_row Tryz.underlying27 rfl (size_gr w) (rdL_dat hb)) (run_equalIn_bytes (P := Tryz.prog) w 9997 27 5 128 Tryz.underlying27 Tryz.underlying5 PC.size_u8 a.data b.data ha.d hb.d) (fun f5 h5 => ?_)
  exact eqF h5 (part_row Tryz.underlying31 rfl (size_rc w) (rdL_rec ha)) (part_row Tryz.underlying31 rfl (size_rc w) (rdL_rec hb)) (eq_rc w 9995 _ _ _ _ _ _ ha.s hb.s) eqN
theorem eql_rd (w : World) (a b : Rd) (ha : a.ok) (hb : b.ok) : (binOp .eql 33 (.agg (rdL a).toArray) (.agg (rdL b).toArray)).run Tryz.prog w = .ok (.bool (rdEq a b)) w := by
  rw [run_eql_struct, eq_rd w a b ha hb]
  rfl
end Go.Proofs.YtpmknkagnkagpaaGreat.ZC
